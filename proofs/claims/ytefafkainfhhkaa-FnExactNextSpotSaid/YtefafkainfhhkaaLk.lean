/- Marking a row of the call's own changes that row alone. -/
import Derived.Test.YtefafkainfhhkaaSq
namespace Go.Proofs.Ytefafkainfhhkaa
open Go.RowKit
open Geo (H3)

theorem grown_set {w w' : World} {g n cap : Nat} (h : w.grownBy w' (Value.slice (some ⟨g, 0, none⟩) n cap).ownBlock) (o : Nat) (u : Value) : w.grownBy (w'.setCell ⟨g, o, none⟩ u) (Value.slice (some ⟨g, 0, none⟩) n cap).ownBlock :=
  ⟨h.os, h.tape, h.output, by simpa using h.size, fun k hk hne => (Below.heap_setCell w' ⟨g, o, none⟩ u k (fun e => hne (by rw [e]; rfl))).trans (h.block k hk hne)⟩
set_option maxHeartbeats 1600000 in
theorem mark_halves2 (v : Value) (n B : Nat) (hs : List H3) (w : World) (hn : n ≤ 4194000) (hown : w.ownsRow B 88 3 v n (flat hs)) :
    Calls Try.prog 72 #[v, .int .i64 1] w fun e w' => e = .returned (.int .i64 (3 * n + 1)) ∧ w'.ownsRow B 88 3 v n (flat (marksH n)) ∧ w.grownBy w' v.ownBlock := by
  have HX := Lib.hid (own3_view hown).1
  obtain ⟨ao, cap, rfl⟩ := own_slice hown
  have HO := Lib.hid hown
  clear hown
  go_enter Try.func72, Try.ntmps72
  go_wp2
  go_loopw [1, 5] (fun x i wr => ∃ k : Nat, k ≤ n ∧ x = .int .i64 (3 * k + 1) ∧ i = .int .i64 k ∧ wr.ownsRow B 88 3 (.slice ao n cap) n (flat (markedH k hs)) ∧ w.grownBy wr (Value.slice ao n cap).ownBlock) (fun _ i _ => n - (intOf i).toNat)
  case atStart => exact ⟨0, Nat.zero_le _, rfl, rfl, by rw [markedH_zero]; exact HO.out, World.grownBy.refl _ _⟩
  case round =>
    obtain ⟨k, hk, rfl, rfl, ho, hbel⟩ := hrel
    have HW := Lib.hid ho
    by_cases hlt : k < n
    · obtain ⟨g, cap', e⟩ := own_row ho (by omega)
      simp only [Value.slice.injEq, true_and] at e
      obtain ⟨rfl, rfl⟩ := e
      have HS := Lib.hid (markedH_step k hs (by rw [HX.out]; exact hlt))
      obtain ⟨z, _, t1, t2, t3, f1, f2, f3, _, hgl⟩ := own3_at ho hlt
      clear ho
      go_wp2
      go_roundw
      case rel =>
        have hp := own3_put HW.out k (mkH k)
        rw [HS.out] at hp
        refine ⟨k + 1, by omega, by go_num, by go_num, ?_, ?_⟩
        · simpa [mkH, Int.add_assoc] using hp
        · exact grown_set (grown_set (grown_set hbel _ _) _ _) _ _
      case measure => simp [intOf]; omega
    · have : k = n := by omega
      subst this
      clear ho
      go_wp2
      go_ret
      exact ⟨rfl, by rw [← markedH_all k hs HX.out]; exact HW.out, hbel⟩
theorem grown_new {w w' : World} {row : Option Nat} {o : Obj} (h : (w.alloc o).grownBy w' row) : w.grownBy w' row :=
  (World.grownBy_alloc w o row).trans h
theorem grown_below {w w' : World} {B n s : Nat} {e : TypeId} {v : Value} {xs : List Value} (h : w.ownsRow B e s v n xs) (hB : B ≤ w.heap.size) (hg : w.grownBy w' v.ownBlock) : Below B w w' :=
  (Below.refl B w).grown hg hB (fun _ hp => own_base_le h hp)
theorem mark_region2 (v : Value) (n B : Nat) (hs : List H3) (w : World) (hn : n ≤ 4194000) (hown : w.ownsRow B 88 3 v n (flat hs)) :
    Calls Try.prog 21 #[.agg #[v], .int .i64 1] w fun e w' => e = .returned (.int .i64 (3 * n + 1)) ∧ w'.ownsRow B 88 3 v n (flat (marksH n)) ∧ w.grownBy w' v.ownBlock := by
  obtain ⟨ao, cap, rfl⟩ := own_slice hown
  have HO := Lib.hid hown
  clear hown
  go_enter Try.func21, Try.ntmps21
  go_wp2_with fail
  refine (mark_halves2 _ n B hs _ hn (own_below HO.out (below_one _ _))).mono ?_
  rintro e w1 ⟨rfl, ho, hb⟩
  have H1 := Lib.hid ho
  clear ho
  go_wp2
  go_ret
  exact ⟨rfl, H1.out, grown_new hb⟩
/-- a row in another block is as it was -/
theorem own_grow {w w' : World} {B n s : Nat} {e : TypeId} {v : Value} {xs : List Value} {row : Option Nat} (h : w.ownsRow B e s v n xs) (hg : w.grownBy w' row) (hne : ∀ p, v.ownBlock = some p → some p ≠ row) : w'.ownsRow B e s v n xs := by
  refine ⟨h.1, ?_⟩
  rcases h.2 with h2 | ⟨g, cap, cur, hv, hg', hh, r⟩
  · exact .inl h2
  · exact .inr ⟨g, cap, cur, hv, hg', (hg.block g (lt_of_block hh) (hne g (by rw [hv]; rfl))).trans hh, r⟩
theorem own_block_lt {w : World} {B n s p : Nat} {e : TypeId} {v : Value} {xs : List Value} (h : w.ownsRow B e s v n xs) (hp : v.ownBlock = some p) : B ≤ p ∧ p < w.heap.size := by
  rcases h.2 with ⟨rfl, _⟩ | ⟨g, cap, cur, rfl, hg, hh, _⟩
  · simp [Value.ownBlock] at hp
  · simp [Value.ownBlock] at hp
    subst hp
    exact ⟨hg, lt_of_block hh⟩
theorem own_nil {w : World} {B n s cap : Nat} {e : TypeId} {a : Option Addr} {xs : List Value} (h : w.ownsRow B e s (.slice a n cap) n xs) : a = none → n = 0 ∧ cap = 0 := by
  rintro rfl
  rcases h.2 with ⟨h1, h2⟩ | ⟨g, cap', cur, h1, _⟩
  · simp at h1; omega
  · simp at h1
end Go.Proofs.Ytefafkainfhhkaa
