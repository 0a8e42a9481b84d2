/- The walk of TighterHalf's law. -/
import Derived.Test.YtkodoedkdgldnabTig
namespace Go.Proofs.Ytkodoedkdgldnab
open Go.RowKit

/-- a struct of three ints that lies in a new block -/
def LiesT (T : TypeId) (W : World) (x y d : Int) (v : Value) (wx : World) : Prop := ∃ g, v = .pointer (some ⟨g, 0, none⟩) ∧ W.heap.size ≤ g ∧ wx.heap[g]? = some (.cells #[.int .i64 x, .int .i64 y, .int .i64 d] T (0, 0)) ∧ Below W.heap.size W wx

end Go.Proofs.Ytkodoedkdgldnab
