/- Marks that begin at any number, and the walk of the law of MeetRegions. -/
import Derived.Test.YtefafkainfhhkaaMm
namespace Go.Proofs.Ytefafkainfhhkaa
open Go.RowKit
open Geo (H3)

set_option maxHeartbeats 1600000 in
theorem mark_halves3 (v : Value) (n B : Nat) (hs : List H3) (s : Int) (w : World) (hn : n ≤ 4194000) (hs0 : 0 ≤ s) (hs1 : s ≤ 10000000) (hown : w.ownsRow B 88 3 v n (flat hs)) :
    Calls Try.prog 72 #[v, .int .i64 s] w fun e w' => e = .returned (.int .i64 (3 * n + s)) ∧ w.grownBy w' v.ownBlock := by
  obtain ⟨ao, cap, rfl⟩ := own_slice hown
  have HO := Lib.hid hown
  clear hown
  go_enter Try.func72, Try.ntmps72
  go_wp2
  go_loopw [1, 5] (fun x i wr => ∃ k : Nat, k ≤ n ∧ x = .int .i64 (3 * k + s) ∧ i = .int .i64 k ∧ (∃ ys, wr.ownsRow B 88 3 (.slice ao n cap) n (flat ys)) ∧ w.grownBy wr (Value.slice ao n cap).ownBlock) (fun _ i _ => n - (intOf i).toNat)
  case atStart => exact ⟨0, Nat.zero_le _, by simp, rfl, ⟨hs, HO.out⟩, World.grownBy.refl _ _⟩
  case round =>
    obtain ⟨k, hk, rfl, rfl, ⟨ys, ho⟩, hbel⟩ := hrel
    have HW := Lib.hid ho
    by_cases hlt : k < n
    · obtain ⟨g, cap', e⟩ := own_row ho (by omega)
      simp only [Value.slice.injEq, true_and] at e
      obtain ⟨rfl, rfl⟩ := e
      obtain ⟨z, _, t1, t2, t3, f1, f2, f3, _, hgl⟩ := own3_at ho hlt
      clear ho
      go_wp2
      go_roundw
      case rel =>
        refine ⟨k + 1, by omega, by go_num, by go_num, ⟨_, own3_put HW.out k ⟨_, _, _⟩⟩, ?_⟩
        exact grown_set (grown_set (grown_set hbel _ _) _ _) _ _
      case measure => simp [intOf]; omega
    · have : k = n := by omega
      subst this
      clear ho
      go_wp2
      go_ret
      exact ⟨rfl, hbel⟩
theorem mark_region3 (v : Value) (n B : Nat) (hs : List H3) (s : Int) (w : World) (hn : n ≤ 4194000) (hs0 : 0 ≤ s) (hs1 : s ≤ 10000000) (hown : w.ownsRow B 88 3 v n (flat hs)) :
    Calls Try.prog 21 #[.agg #[v], .int .i64 s] w fun e w' => e = .returned (.int .i64 (3 * n + s)) ∧ w.grownBy w' v.ownBlock := by
  obtain ⟨ao, cap, rfl⟩ := own_slice hown
  have HO := Lib.hid hown
  clear hown
  go_enter Try.func21, Try.ntmps21
  go_wp2_with fail
  refine (mark_halves3 _ n B hs s _ hn hs0 hs1 (own_below HO.out (below_one _ _))).mono ?_
  rintro e w1 ⟨rfl, hb⟩
  go_wp2
  go_ret
  exact ⟨rfl, grown_new hb⟩
end Go.Proofs.Ytefafkainfhhkaa
