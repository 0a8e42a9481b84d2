/- The contracts of both BeforeAngle and SameDirection functions over the translation, and the walks of their laws. -/
import Derived.Test.YtkodoedkdgldnaaOth
namespace Go.Proofs.Ytkodoedkdgldnaa
open Go.RowKit

/-- the direction lies in the first half turn -/
def upB (a b : Int) : Bool := decide (0 < b) || (decide (b = 0) && decide (0 < a))
theorem up_b {a b : Int} (h : 0 < b) : upB a b = true := by unfold upB; simp [h]
theorem up_n {a b : Int} (h : b < 0) : upB a b = false := by unfold upB; simp; omega
theorem up_z {a b : Int} (h : b = 0) : upB a b = decide (0 < a) := by unfold upB; simp [h]
/-- products of the parts of valid directions are small -/
theorem turn_in {a b c x y d : Int} (h : okH a b c = true) (k : okH x y d = true) : (-2500000000 ≤ a * y ∧ a * y ≤ 2500000000) ∧ (-2500000000 ≤ b * x ∧ b * x ≤ 2500000000) ∧ (-2500000000 ≤ a * x ∧ a * x ≤ 2500000000) ∧ (-2500000000 ≤ b * y ∧ b * y ≤ 2500000000) := by
  obtain ⟨a1, a2, b1, b2, _⟩ := (okH_iff _ _ _).1 h
  obtain ⟨x1, x2, y1, y2, _⟩ := (okH_iff _ _ _).1 k
  have m1 := mul_in a y 50000 50000 a1 a2 y1 y2
  have m2 := mul_in b x 50000 50000 b1 b2 x1 x2
  have m3 := mul_in a x 50000 50000 a1 a2 x1 x2
  have m4 := mul_in b y 50000 50000 b1 b2 y1 y2
  exact ⟨by omega, by omega, by omega, by omega⟩

set_option maxHeartbeats 800000 in
theorem spec_up (a b c : Int) (w : World) :
    Calls Try.prog 64 #[.agg #[.int .i64 a, .int .i64 b, .int .i64 c]] w fun e w' => e = .returned (.int .i64 (if upB a b = true then 0 else 1)) ∧ Below w.heap.size w w' := by
  have hk : 0 < b ∨ b < 0 ∨ (b = 0 ∧ 0 < a) ∨ (b = 0 ∧ a ≤ 0) := by omega
  rcases hk with hk | hk | ⟨hk, hl⟩ | ⟨hk, hl⟩
  · rw [up_b hk]
    go_enter Try.func64, Try.ntmps64
    go_wp2_with fail
    go_ret
    exact ⟨by first | rfl | exact ret_bool2 (by simp; omega), below_box _ _⟩
  · rw [up_n hk]
    go_enter Try.func64, Try.ntmps64
    go_wp2_with fail
    go_ret
    exact ⟨by first | rfl | exact ret_bool2 (by simp; omega), below_box _ _⟩
  · rw [up_z hk, decide_eq_true hl]
    subst hk
    go_enter Try.func64, Try.ntmps64
    go_wp2_with fail
    go_ret
    exact ⟨by first | rfl | exact ret_bool2 (by simp; omega), below_box _ _⟩
  · rw [up_z hk, decide_eq_false (by omega)]
    subst hk
    go_enter Try.func64, Try.ntmps64
    go_wp2_with fail
    go_ret
    exact ⟨by first | rfl | exact ret_bool2 (by simp; omega), below_box _ _⟩
set_option maxHeartbeats 800000 in
theorem impl_up (a b c : Int) (w : World) :
    Calls Try.prog 54 #[.agg #[.int .i64 a, .int .i64 b, .int .i64 c]] w fun e w' => e = .returned (.bool (upB a b)) ∧ Below w.heap.size w w' := by
  have hk : 0 < b ∨ b < 0 ∨ (b = 0 ∧ 0 < a) ∨ (b = 0 ∧ a ≤ 0) := by omega
  rcases hk with hk | hk | ⟨hk, hl⟩ | ⟨hk, hl⟩
  · rw [up_b hk]
    go_enter Try.func54, Try.ntmps54
    go_wp2_with fail
    go_ret
    exact ⟨by first | rfl | exact ret_bool2 (by simp; omega), below_box _ _⟩
  · rw [up_n hk]
    go_enter Try.func54, Try.ntmps54
    go_wp2_with fail
    go_ret
    exact ⟨by first | rfl | exact ret_bool2 (by simp; omega), below_box _ _⟩
  · rw [up_z hk, decide_eq_true hl]
    subst hk
    go_enter Try.func54, Try.ntmps54
    go_wp2_with fail
    go_ret
    exact ⟨by first | rfl | exact ret_bool2 (by simp; omega), below_box _ _⟩
  · rw [up_z hk, decide_eq_false (by omega)]
    subst hk
    go_enter Try.func54, Try.ntmps54
    go_wp2_with fail
    go_ret
    exact ⟨by first | rfl | exact ret_bool2 (by simp; omega), below_box _ _⟩
set_option maxHeartbeats 800000 in
theorem impl_turn (a b c x y d : Int) (w : World) (h : okH a b c = true) (k : okH x y d = true) :
    Calls Try.prog 46 #[.agg #[.int .i64 a, .int .i64 b, .int .i64 c], .agg #[.int .i64 x, .int .i64 y, .int .i64 d]] w fun e w' => e = .returned (.int .i64 (a * y - b * x)) ∧ Below w.heap.size w w' := by
  have hw := below_bx2 (below_box w (.cells #[.int .i64 a, .int .i64 b, .int .i64 c] 24)) (.cells #[.int .i64 x, .int .i64 y, .int .i64 d] 24)
  obtain ⟨⟨p0, p1⟩, ⟨q0, q1⟩, _, _⟩ := turn_in h k
  clear h k
  generalize e1 : a * y = P at *
  generalize e2 : b * x = Q at *
  go_enter Try.func46, Try.ntmps46
  go_wp2_with fail
  go_ret
  exact ⟨rfl, hw⟩

end Go.Proofs.Ytkodoedkdgldnaa
