/- The contracts of both SpotOf functions over the translation, away from the least int, and of spotIfOk. -/
import Derived.Test.YtkodoedkdgldnabSame
import Derived.IntWalk
namespace Go.Proofs.Ytkodoedkdgldnab
open Go.RowKit

/-- a struct of three fields that lies at a block and may be written -/
def Has3 (W : World) (g : Nat) (a b c : Value) : Prop := W.cell? ⟨g, 0, none⟩ = some a ∧ W.cell? ⟨g, 1, none⟩ = some b ∧ W.cell? ⟨g, 2, none⟩ = some c ∧ W.frozen? ⟨g, 0, none⟩ = false ∧ W.frozen? ⟨g, 1, none⟩ = false ∧ W.frozen? ⟨g, 2, none⟩ = false
theorem has3_new (w : World) (a b c : Value) (T : TypeId) : Has3 (w.alloc (.cells #[a, b, c] T)) w.heap.size a b c :=
  ⟨(box3 w a b c T).1, (box3 w a b c T).2.1, (box3 w a b c T).2.2, frozen_of_row _ _ 0 _ _ (heap_alloc_new w _), frozen_of_row _ _ 1 _ _ (heap_alloc_new w _), frozen_of_row _ _ 2 _ _ (heap_alloc_new w _)⟩
theorem has3_to {V X : World} {g : Nat} {a b c : Value} (hb : Below V.heap.size V X) (p : Has3 V g a b c) : Has3 X g a b c :=
  ⟨by rw [hb.cell (block_lt_of_cell p.1)]; exact p.1, by rw [hb.cell (block_lt_of_cell p.2.1)]; exact p.2.1, by rw [hb.cell (block_lt_of_cell p.2.2.1)]; exact p.2.2.1,
   by rw [hb.frozen (block_lt_of_cell p.1)]; exact p.2.2.2.1, by rw [hb.frozen (block_lt_of_cell p.2.1)]; exact p.2.2.2.2.1, by rw [hb.frozen (block_lt_of_cell p.2.2.1)]; exact p.2.2.2.2.2⟩
theorem has3_lt {V : World} {g : Nat} {a b c : Value} (p : Has3 V g a b c) : g < V.heap.size := block_lt_of_cell p.1
theorem below_set3 {w w' : World} {g : Nat} (a b c : Value) (h : Below w.heap.size w w') (hg : w.heap.size ≤ g) : Below w.heap.size w (((w'.setCell ⟨g, 0, none⟩ a).setCell ⟨g, 1, none⟩ b).setCell ⟨g, 2, none⟩ c) :=
  ((h.setCell hg _).setCell hg _).setCell hg _
/-- the number, or 0 -/
def kp (b : Bool) (n : Int) : Int := if b = true then n else 0
theorem kp_t (n : Int) : kp true n = n := rfl
theorem kp_f (n : Int) : kp false n = 0 := rfl

/-- what SpotOf answers -/
def ansS (x y d : Int) : Value := .tuple #[.agg #[.int .i64 (kp (hasS x y d) (x.tdiv (gS x y d))), .int .i64 (kp (hasS x y d) (y.tdiv (gS x y d))), .int .i64 (kp (hasS x y d) (d.tdiv (gS x y d)))], .bool (hasS x y d)]
def zeroS : Value := .tuple #[.agg #[.int .i64 0, .int .i64 0, .int .i64 0], .bool false]
def spotS (X Y D : Int) : Value := .tuple #[.agg #[.int .i64 X, .int .i64 Y, .int .i64 D], .bool true]
theorem ansS_no {x y d : Int} (h : hasS x y d = false) : ansS x y d = zeroS := by unfold ansS; rw [h]; rfl
theorem ansS_yes {x y d : Int} (h : hasS x y d = true) : ansS x y d = spotS (x.tdiv (gS x y d)) (y.tdiv (gS x y d)) (d.tdiv (gS x y d)) := by unfold ansS; rw [h]; rfl
theorem gcd_nz (x d : Int) (hd : 1 ≤ d) : ((Int.gcd x d : Int) == 0) = false := by
  have : 0 < Int.gcd x d := Nat.gcd_pos_of_pos_right _ (by omega)
  simp; omega

theorem boxes3 {w w1 : World} {a b c x y d : Value} {T U : TypeId} {k : Nat} (hb : Below (((w.alloc (.cells #[a, b, c] T)).drewN k).alloc (.cells #[x, y, d] U)).heap.size (((w.alloc (.cells #[a, b, c] T)).drewN k).alloc (.cells #[x, y, d] U)) w1) :
    Has3 w1 w.heap.size a b c ∧ Has3 w1 (w.heap.size + 1) x y d ∧ Below w.heap.size w w1 := by
  have b1 := below_drew (below_box w (.cells #[a, b, c] T)) k
  have b2 := below_bx2 b1 (.cells #[x, y, d] U)
  have d1 : Below (w.alloc (.cells #[a, b, c] T)).heap.size (w.alloc (.cells #[a, b, c] T)) ((w.alloc (.cells #[a, b, c] T)).drewN k) := below_drew (Below.refl _ _) k
  have h1 := has3_new ((w.alloc (.cells #[a, b, c] T)).drewN k) x y d U
  rw [show ((w.alloc (.cells #[a, b, c] T)).drewN k).heap.size = w.heap.size + 1 by simp] at h1
  exact ⟨has3_to (below_to (below_bx2 d1 _) hb) (has3_new w a b c T), has3_to hb h1, below_to b2 hb⟩

end Go.Proofs.Ytkodoedkdgldnab
