/- The contracts of both BeforeAngle and SameDirection functions over the translation, and the walks of their laws. -/
import Derived.Test.YtkodoedkdgldnabOth
namespace Go.Proofs.Ytkodoedkdgldnab
open Go.RowKit

/-- the direction lies in the first half turn -/
def upB (a b : Int) : Bool := decide (0 < b) || (decide (b = 0) && decide (0 < a))
theorem up_b {a b : Int} (h : 0 < b) : upB a b = true := by unfold upB; simp [h]
theorem up_n {a b : Int} (h : b < 0) : upB a b = false := by unfold upB; simp; omega
theorem up_z {a b : Int} (h : b = 0) : upB a b = decide (0 < a) := by unfold upB; simp [h]
/-- products of the parts of valid directions are small -/
theorem turn_in {a b c x y d : Int} (h : okH a b c = true) (k : okH x y d = true) : (-2500000000 ≤ a * y ∧ a * y ≤ 2500000000) ∧ (-2500000000 ≤ b * x ∧ b * x ≤ 2500000000) ∧ (-2500000000 ≤ a * x ∧ a * x ≤ 2500000000) ∧ (-2500000000 ≤ b * y ∧ b * y ≤ 2500000000) := by
  obtain ⟨a1, a2, b1, b2, _⟩ := (okH_iff _ _ _).1 h
  obtain ⟨x1, x2, y1, y2, _⟩ := (okH_iff _ _ _).1 k
  have m1 := mul_in a y 50000 50000 a1 a2 y1 y2
  have m2 := mul_in b x 50000 50000 b1 b2 x1 x2
  have m3 := mul_in a x 50000 50000 a1 a2 x1 x2
  have m4 := mul_in b y 50000 50000 b1 b2 y1 y2
  exact ⟨by omega, by omega, by omega, by omega⟩

end Go.Proofs.Ytkodoedkdgldnab
