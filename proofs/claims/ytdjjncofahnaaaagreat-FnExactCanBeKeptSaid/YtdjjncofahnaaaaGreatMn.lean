/- Marks on a slice of ints. -/
import Derived.Test.YtdjjncofahnaaaaGreatIz
import Derived.Test.YtdjjncofahnaaaaGreatMw
namespace Go.Proofs.YtdjjncofahnaaaaGreat
open Go.RowKit
open Geo (H3)

theorem own_setI {w : World} {B n cap : Nat} {g : Nat} {ys : List Value} (h : w.ownsRow B 3 1 (.slice (some ⟨g, 0, none⟩) n cap) n ys) (k : Nat) (u : Value) : (w.setCell ⟨g, k, none⟩ u).ownsRow B 3 1 (.slice (some ⟨g, 0, none⟩) n cap) n (ys.set k u) := own_set h k u
set_option maxHeartbeats 1600000 in
theorem mark_ints (v : Value) (n B : Nat) (ys : List Value) (s : Int) (w : World) (hn : n ≤ 1048576) (hs0 : 0 ≤ s) (hs1 : s ≤ 10000000) (hown : w.ownsRow B 3 1 v n ys) :
    Calls Tryz.prog 80 #[v, .int .i64 s] w fun e w' => e = .returned (.int .i64 (n + s)) ∧ w.grownBy w' v.ownBlock := by
  obtain ⟨ao, cap, rfl⟩ := own_slice hown
  have HO := Lib.hid hown
  clear hown
  go_enter Tryz.func80, Tryz.ntmps80
  go_wp2
  go_loopw [1, 5] (fun x i wr => ∃ k : Nat, k ≤ n ∧ x = .int .i64 (k + s) ∧ i = .int .i64 k ∧ (∃ zs, wr.ownsRow B 3 1 (.slice ao n cap) n zs) ∧ w.grownBy wr (Value.slice ao n cap).ownBlock) (fun _ i _ => n - (intOf i).toNat)
  case atStart => exact ⟨0, Nat.zero_le _, by simp, rfl, ⟨ys, HO.out⟩, World.grownBy.refl _ _⟩
  case round =>
    obtain ⟨k, hk, rfl, rfl, ⟨zs, ho⟩, hbel⟩ := hrel
    have HW := Lib.hid ho
    by_cases hlt : k < n
    · obtain ⟨g, cap', e⟩ := own_row ho (by omega)
      simp only [Value.slice.injEq, true_and] at e
      obtain ⟨rfl, rfl⟩ := e
      obtain ⟨⟨u, hc3, _⟩, hf, _, hgl⟩ := own_cell ho k hlt
      clear ho
      go_wp2
      go_roundw
      case rel =>
        refine ⟨k + 1, by omega, by go_num, by go_num, ⟨_, own_set HW.out k _⟩, ?_⟩
        exact grown_set hbel _ _
      case measure => simp [intOf]; omega
    · have : k = n := by omega
      subst this
      clear ho
      go_wp2
      go_ret
      exact ⟨rfl, hbel⟩
end Go.Proofs.YtdjjncofahnaaaaGreat
