/- The contracts of both OtherSide functions over the translation, and the walk of their law. -/
import Derived.Test.YtkodoedkdgldnabSid
namespace Go.Proofs.Ytkodoedkdgldnab
open Go.RowKit

/-- what OtherSide answers -/
def othH (a b c : Int) : Value := .agg #[.int .i64 (kp (okH a b c) (-a)), .int .i64 (kp (okH a b c) (-b)), .int .i64 (kp (okH a b c) (-c))]
theorem othH_ex (a b c : Int) : ∃ A B C : Int, othH a b c = .agg #[.int .i64 A, .int .i64 B, .int .i64 C] := ⟨_, _, _, rfl⟩
theorem othH_no {a b c : Int} (h : okH a b c = false) : othH a b c = .agg #[.int .i64 0, .int .i64 0, .int .i64 0] := by unfold othH; rw [h]; rfl
theorem othH_yes {a b c : Int} (h : okH a b c = true) : othH a b c = .agg #[.int .i64 (-a), .int .i64 (-b), .int .i64 (-c)] := by unfold othH; rw [h]; rfl

set_option maxHeartbeats 800000 in
theorem eq_half (x y d : Int) (w : World) :
    Calls Try.prog 7 #[.agg #[.int .i64 x, .int .i64 y, .int .i64 d], .agg #[.int .i64 x, .int .i64 y, .int .i64 d]] w fun e w' => e = .returned (.bool true) ∧ Below w.heap.size w w' := by
  go_enter Try.func7, Try.ntmps7
  go_wp2
  go_ret
  exact ⟨rfl, below_bx2 (below_box _ _) _⟩

end Go.Proofs.Ytkodoedkdgldnab
