/- The walk of ShiftSpot's law. -/
import Derived.Test.YtkodoedkdgldnaaShf
namespace Go.Proofs.Ytkodoedkdgldnaa
open Go.RowKit

theorem shiftS_ex (x y d a b : Int) : ∃ X Y D : Int, ∃ B : Bool, shiftS x y d a b = .tuple #[.agg #[.int .i64 X, .int .i64 Y, .int .i64 D], .bool B] := by
  unfold shiftS
  split
  · exact ansS_ex _ _ _
  · exact ⟨0, 0, 0, false, rfl⟩
set_option maxHeartbeats 800000 in
theorem eq_spot (x y d : Int) (w : World) :
    Calls Try.prog 39 #[.agg #[.int .i64 x, .int .i64 y, .int .i64 d], .agg #[.int .i64 x, .int .i64 y, .int .i64 d]] w fun e w' => e = .returned (.bool true) ∧ Below w.heap.size w w' := by
  go_enter Try.func39, Try.ntmps39
  go_wp2
  go_ret
  exact ⟨rfl, below_bx2 (below_box _ _) _⟩

end Go.Proofs.Ytkodoedkdgldnaa
