/- The contracts of both SameSpot functions over the translation, and the walk of their law. -/
import Derived.Test.YtkodoedkdgldnabSok
import Derived.Deep.RegionHeld3
import Derived.Deep.CutRange
import Derived.Deep.RegionWith
namespace Go.Proofs.Ytkodoedkdgldnab
open Go.RowKit
/-- the same spot -/
def sameS (a b c x y d : Int) : Bool := (a == x) && (b == y) && (c == d)
theorem below_bx2 {w w' : World} (h : Below w.heap.size w w') (o : Obj) : Below w.heap.size w (w'.alloc o) := h.trans ((below_box w' o).mono h.size)
theorem below_drw {w w' : World} (h : Below w.heap.size w w') : Below w.heap.size w w'.drew := below_drew h 1
theorem sixc {V X : World} {g h : Nat} {a b c x y d : Value} (hb : Below V.heap.size V X) (p : V.cell? ⟨g, 0, none⟩ = some a ∧ V.cell? ⟨g, 1, none⟩ = some b ∧ V.cell? ⟨g, 2, none⟩ = some c) (q : V.cell? ⟨h, 0, none⟩ = some x ∧ V.cell? ⟨h, 1, none⟩ = some y ∧ V.cell? ⟨h, 2, none⟩ = some d) :
    X.cell? ⟨g, 0, none⟩ = some a ∧ X.cell? ⟨g, 1, none⟩ = some b ∧ X.cell? ⟨g, 2, none⟩ = some c ∧ X.cell? ⟨h, 0, none⟩ = some x ∧ X.cell? ⟨h, 1, none⟩ = some y ∧ X.cell? ⟨h, 2, none⟩ = some d :=
  ⟨(three hb p).1, (three hb p).2.1, (three hb p).2.2, three hb q⟩
theorem sixb (w : World) (a b c x y d : Value) (T U : TypeId) : (((w.alloc (.cells #[a, b, c] T)).alloc (.cells #[x, y, d] U)).cell? ⟨w.heap.size, 0, none⟩ = some a ∧ ((w.alloc (.cells #[a, b, c] T)).alloc (.cells #[x, y, d] U)).cell? ⟨w.heap.size, 1, none⟩ = some b ∧ ((w.alloc (.cells #[a, b, c] T)).alloc (.cells #[x, y, d] U)).cell? ⟨w.heap.size, 2, none⟩ = some c) ∧
    (((w.alloc (.cells #[a, b, c] T)).alloc (.cells #[x, y, d] U)).cell? ⟨w.heap.size + 1, 0, none⟩ = some x ∧ ((w.alloc (.cells #[a, b, c] T)).alloc (.cells #[x, y, d] U)).cell? ⟨w.heap.size + 1, 1, none⟩ = some y ∧ ((w.alloc (.cells #[a, b, c] T)).alloc (.cells #[x, y, d] U)).cell? ⟨w.heap.size + 1, 2, none⟩ = some d) :=
  ⟨three (below_box _ _) (box3 w a b c T), by simp⟩

end Go.Proofs.Ytkodoedkdgldnab
