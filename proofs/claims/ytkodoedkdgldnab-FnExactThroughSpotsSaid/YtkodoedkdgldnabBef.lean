/- The contracts of both BeforeAngle functions over the translation, and the walk of their law. -/
import Derived.Test.YtkodoedkdgldnabAng
namespace Go.Proofs.Ytkodoedkdgldnab
open Go.RowKit

/-- the order of directions -/
def befV (a b x y : Int) : Bool := if upB a b = upB x y then decide (0 < a * y - b * x) else upB a b
/-- what BeforeAngle answers -/
def befH (a b c x y d : Int) : Bool := okH a b c && okH x y d && befV a b x y
theorem befV_ne {a b x y : Int} {p q : Bool} (h : upB a b = p) (k : upB x y = q) (n : p ≠ q) : befV a b x y = p := by
  unfold befV; rw [h, k, if_neg n]
theorem befV_eq {a b x y : Int} {p : Bool} (h : upB a b = p) (k : upB x y = p) : befV a b x y = decide (0 < a * y - b * x) := by
  unfold befV; rw [h, k, if_pos rfl]

end Go.Proofs.Ytkodoedkdgldnab
