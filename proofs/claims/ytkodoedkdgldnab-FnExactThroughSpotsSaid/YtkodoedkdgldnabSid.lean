/- The contracts of both SideOf, HoldsAt and OtherSide functions over the translation. -/
import Derived.Test.YtkodoedkdgldnabHok
import Derived.Test.YtkodoedkdgldnabShf
namespace Go.Proofs.Ytkodoedkdgldnab
open Go.RowKit

/-- on which side of the border a spot lies -/
def sideV (a b c x y d : Int) : Int := if a * x + b * y < c * d then -1 else if c * d < a * x + b * y then 1 else 0
theorem sideV_lt {a b c x y d : Int} (h : a * x + b * y < c * d) : sideV a b c x y d = -1 := if_pos h
theorem sideV_gt {a b c x y d : Int} (h : c * d < a * x + b * y) : sideV a b c x y d = 1 := by unfold sideV; rw [if_neg (by omega), if_pos h]
theorem sideV_eq {a b c x y d : Int} (h : a * x + b * y = c * d) : sideV a b c x y d = 0 := by unfold sideV; rw [if_neg (by omega), if_neg (by omega)]
/-- what SideOf answers -/
def sideH (a b c x y d : Int) : Int := if okH a b c = true ∧ okS x y d = true then sideV a b c x y d else 0
/-- the products of valid ones are small -/
theorem side_in {a b c x y d : Int} (h : okH a b c = true) (k : okS x y d = true) : (-250000000000000000 ≤ a * x ∧ a * x ≤ 250000000000000000) ∧ (-250000000000000000 ≤ b * y ∧ b * y ≤ 250000000000000000) ∧ (-500000000000000000 ≤ c * d ∧ c * d ≤ 500000000000000000) := by
  obtain ⟨a1, a2, b1, b2, _, c1, c2, _⟩ := (okH_iff _ _ _).1 h
  obtain ⟨d1, d2, x1, x2, y1, y2, _⟩ := (okS_iff _ _ _).1 k
  have m1 := mul_in a x 50000 5000000000000 a1 a2 (by omega) (by omega)
  have m2 := mul_in b y 50000 5000000000000 b1 b2 (by omega) (by omega)
  have m3 := mul_in c d 100000000 5000000000 c1 c2 (by omega) (by omega)
  exact ⟨by omega, by omega, by omega⟩

/-- what HoldsAt answers -/
def holdH (a b c x y d : Int) : Bool := okH a b c && okS x y d && decide (sideV a b c x y d ≤ 0)
theorem sideV_cases (a b c x y d : Int) : sideV a b c x y d = -1 ∨ sideV a b c x y d = 0 ∨ sideV a b c x y d = 1 := by
  unfold sideV
  split
  · exact .inl rfl
  · split
    · exact .inr (.inr rfl)
    · exact .inr (.inl rfl)

end Go.Proofs.Ytkodoedkdgldnab
