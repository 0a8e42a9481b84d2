/- The walk of ShiftSpot's law. -/
import Derived.Test.YtkodoedkdgldnabShf
namespace Go.Proofs.Ytkodoedkdgldnab
open Go.RowKit

theorem shiftS_ex (x y d a b : Int) : ∃ X Y D : Int, ∃ B : Bool, shiftS x y d a b = .tuple #[.agg #[.int .i64 X, .int .i64 Y, .int .i64 D], .bool B] := by
  unfold shiftS
  split
  · exact ansS_ex _ _ _
  · exact ⟨0, 0, 0, false, rfl⟩
end Go.Proofs.Ytkodoedkdgldnab
