/- The contracts of both HalfWay functions over the translation. -/
import Derived.Test.YtkodoedkdgldnabShl
namespace Go.Proofs.Ytkodoedkdgldnab
open Go.RowKit

/-- what HalfWay answers -/
def halfS (a b c x y d : Int) : Value := if okS a b c = true ∧ okS x y d = true ∧ c ≤ 1000000 ∧ d ≤ 1000000 then ansS (a * d + x * c) (b * d + y * c) (2 * c * d) else zeroS
theorem halfS_ex (a b c x y d : Int) : ∃ X Y D : Int, ∃ B : Bool, halfS a b c x y d = .tuple #[.agg #[.int .i64 X, .int .i64 Y, .int .i64 D], .bool B] := by
  unfold halfS
  split
  · exact ansS_ex _ _ _
  · exact ⟨0, 0, 0, false, rfl⟩
theorem sboxes3 {w w1 : World} {a b c x y d p q r : Value} {T U V : TypeId} (hb : Below (((w.alloc (.cells #[a, b, c] T)).alloc (.cells #[x, y, d] U)).alloc (.cells #[p, q, r] V)).heap.size (((w.alloc (.cells #[a, b, c] T)).alloc (.cells #[x, y, d] U)).alloc (.cells #[p, q, r] V)) w1) :
    Has3 w1 w.heap.size a b c ∧ Has3 w1 (w.heap.size + 1) x y d ∧ Has3 w1 (w.heap.size + 1 + 1) p q r ∧ Below w.heap.size w w1 := by
  obtain ⟨h1, h2, h3⟩ := sboxes hb
  have e : (w.alloc (.cells #[a, b, c] T)).heap.size = w.heap.size + 1 := by simp
  rw [e] at h1 h2
  refine ⟨has3_to (below_to (below_bx2 (below_box _ _) _) hb) (has3_new w a b c T), h1, h2, ?_⟩
  exact below_to (below_box w _) h3

end Go.Proofs.Ytkodoedkdgldnab
