/- The contracts of the laws' helpers on regions over the translation. -/
import Derived.Test.YtobmaajfdpcfmaaLh
namespace Go.Proofs.Ytobmaajfdpcfmaa
open Go.RowKit
open Geo (H3)

theorem below_one (w : World) (o : Obj) : Below w.heap.size w (w.alloc o) := (Below.refl _ _).alloc (Nat.le_refl _) _
theorem sz_region (a : Option Addr) (n cap : Nat) (w : World) (hn : n ≤ maxLen) (s : Int) (hs : 0 ≤ s) (hs2 : s ≤ 1048576) (r : Int) (hr : r = if (n : Int) ≤ s then s - n else -1) :
    Calls Try.prog 41 #[.agg #[.slice a n cap], .int .i64 s] w fun e w' => e = .returned (.int .i64 r) ∧ Below w.heap.size w w' := by
  have HR := Lib.hid hr
  have h3 : r < 0 ∨ 0 ≤ r := by omega
  have h4 : r < 0 → r = -1 := by intro h; by_cases k : (n : Int) ≤ s <;> simp [k] at hr <;> omega
  clear hr
  rcases h3 with h3 | h3
  · obtain rfl := h4 h3
    clear h4
    go_enter Try.func41, Try.ntmps41
    go_wp2_with (go_at_call 91; (with_reducible refine (sz_halves _ _ _ _ hn _ hs hs2 _ HR.out).mono ?_); rintro e w1 ⟨rfl, rfl⟩)
    go_ret
    exact ⟨rfl, below_one _ _⟩
  · clear h4
    go_enter Try.func41, Try.ntmps41
    go_wp2_with (go_at_call 91; (with_reducible refine (sz_halves _ _ _ _ hn _ hs hs2 _ HR.out).mono ?_); rintro e w1 ⟨rfl, rfl⟩)
    go_ret
    exact ⟨rfl, below_one _ _⟩
theorem bcellr {W w1 : World} (hb : Below W.heap.size W w1) : (∀ b o, b < W.heap.size → w1.cell? ⟨b, o, none⟩ = W.cell? ⟨b, o, none⟩) ∧ (∀ b o, b < W.heap.size → w1.frozen? ⟨b, o, none⟩ = W.frozen? ⟨b, o, none⟩) :=
  ⟨fun b o h => hb.cell (p := ⟨b, o, none⟩) h, fun b o h => hb.frozen (p := ⟨b, o, none⟩) h⟩
/-- a new region is handed back -/
def GivesR (w : World) (hs : List H3) (e : Ending) (w' : World) : Prop := ∃ v, e = .returned (.agg #[v]) ∧ w'.ownsRow w.heap.size 34 3 v hs.length (flat hs) ∧ Below w.heap.size w w'
theorem own_base {w : World} {B B' n s : Nat} {e : TypeId} {v : Value} {xs : List Value} (h : w.ownsRow B e s v n xs) (hB : B' ≤ B) : w.ownsRow B' e s v n xs := by
  refine ⟨h.1, ?_⟩
  rcases h.2 with h2 | ⟨g, cap, cur, hv, hg, r⟩
  · exact .inl h2
  · exact .inr ⟨g, cap, cur, hv, by omega, r⟩
theorem own_far {w : World} {B n s : Nat} {e : TypeId} {v : Value} {xs : List Value} (h : w.ownsRow B e s v n xs) {p : Addr} (hp : p.block < B) (u : Value) : (w.setCell p u).ownsRow B e s v n xs := by
  refine ⟨h.1, ?_⟩
  rcases h.2 with h2 | ⟨g, cap, cur, hv, hg, hh, r⟩
  · exact .inl h2
  · exact .inr ⟨g, cap, cur, hv, hg, (Below.heap_setCell w p u g (by omega)).trans hh, r⟩
set_option maxHeartbeats 1600000 in
theorem to_region (a : Option Addr) (n cap : Nat) (hs : List H3) (w : World) (hl : hs.length = n) (hn : n ≤ 1048576) (hA : HsAt w a hs) :
    Calls Try.prog 43 #[.agg #[.slice a n cap]] w (GivesR w hs) := by
  have HL := Lib.hid hl
  have HA := Lib.hid hA
  clear hl hA
  go_enter Try.func43, Try.ntmps43
  go_wp2_with fail
  refine (to_halves a n cap hs _ HL.out hn (HA.out.below ?_)).mono ?_
  · exact below_bx2 (below_bx2 (below_one _ _) _) _
  rintro e w1 ⟨v, rfl, ho, bl1⟩
  obtain ⟨ao, cp, rfl⟩ := own_slice ho
  have HO := Lib.hid ho
  have hz := bl1.size
  simp at hz
  have HB := Lib.hid bl1
  obtain ⟨hc1, hf1⟩ := bcellr bl1
  clear ho bl1
  generalize hs.length = m at *
  go_wp2
  refine bodyPost_ret (v := .agg #[.slice ao m cp]) (by simp [results, Try.results43, go_sem, hc1]) rfl ?_
  refine ⟨_, rfl, ?_, ?_⟩
  · have h1 : hs.length = m := (own3_view HO.out).1
    rw [h1]
    exact own_base (own_far (own_far HO.out (by simp) _) (by simp) _) (by simp; omega)
  · exact ((below_to (below_bx2 (below_bx2 (below_one _ _) _) _) HB.out).setCell (by simp; omega) _).setCell (by simp) _
set_option maxHeartbeats 1600000 in
theorem eq_region (a b : Option Addr) (n ca cb : Nat) (xs : List H3) (w : World) (hl : xs.length = n) (hn : n ≤ 4194304) (hA : HsAt w a xs) (hB : HsAt w b xs) :
    Calls Try.prog 45 #[.agg #[.slice a n ca], .agg #[.slice b n cb]] w fun e w' => e = .returned (.bool true) ∧ Below w.heap.size w w' := by
  have HL := Lib.hid hl
  have HA := Lib.hid hA
  have HB := Lib.hid hB
  clear hl hA hB
  go_enter Try.func45, Try.ntmps45
  go_wp2_with fail
  refine (eq_halves a b n ca cb xs _ HL.out hn (HA.out.below (below_bx2 (below_one _ _) _)) (HB.out.below (below_bx2 (below_one _ _) _))).mono ?_
  rintro e w1 ⟨rfl, bl1⟩
  go_wp2
  go_ret
  exact ⟨rfl, below_to (below_bx2 (below_one _ _) _) bl1⟩
theorem mark_region (v : Value) (n B : Nat) (hs : List H3) (w : World) (hn : n ≤ 4194000) (hB : B ≤ w.heap.size) (hown : w.ownsRow B 34 3 v n (flat hs)) :
    Calls Try.prog 46 #[.agg #[v], .int .i64 1] w fun e w' => e = .returned (.int .i64 (3 * n + 1)) ∧ w'.ownsRow B 34 3 v n (flat (marksH n)) ∧ Below B w w' := by
  obtain ⟨ao, cap, rfl⟩ := own_slice hown
  have HO := Lib.hid hown
  clear hown
  go_enter Try.func46, Try.ntmps46
  go_wp2_with fail
  refine (mark_halves _ n B hs _ hn (own_below HO.out (below_one _ _))).mono ?_
  rintro e w1 ⟨rfl, ho, hb⟩
  have H1 := Lib.hid ho
  clear ho
  go_wp2
  go_ret
  exact ⟨rfl, H1.out, ((below_one _ _).mono hB).trans hb⟩
theorem held_region (ao : Option Addr) (n cap : Nat) (w : World) (hn : n ≤ 4194000) (hA : HsAt w ao (marksH n)) :
    Calls Try.prog 50 #[.agg #[.slice ao n cap], .int .i64 1] w fun e w' => e = .returned (.int .i64 (3 * n + 1)) ∧ Below w.heap.size w w' := by
  have HA := Lib.hid hA
  clear hA
  go_enter Try.func50, Try.ntmps50
  go_wp2_with fail
  refine (held_halves _ n cap _ hn (HA.out.below (below_one _ _))).mono ?_
  rintro e w1 ⟨rfl, rfl⟩
  go_wp2
  go_ret
  exact ⟨rfl, below_one _ _⟩
end Go.Proofs.Ytobmaajfdpcfmaa
