/- The walk of HalfWay's law. -/
import Derived.Test.YtkodoedkdgldnabHlf
namespace Go.Proofs.Ytkodoedkdgldnab
open Go.RowKit

/-- a spot that lies in a new block -/
def Lies3 (W : World) (x y d : Int) (v : Value) (wx : World) : Prop := ∃ g, v = .pointer (some ⟨g, 0, none⟩) ∧ W.heap.size ≤ g ∧ wx.heap[g]? = some (.cells #[.int .i64 x, .int .i64 y, .int .i64 d] 28 (0, 0)) ∧ Below W.heap.size W wx
theorem heap_set3 {w : World} {g : Nat} {x y z : Value} {T : TypeId} (a b c : Value) (h0 : w.heap[g]? = some (.cells #[x, y, z] T (0, 0))) : (((w.setCell ⟨g, 0, none⟩ a).setCell ⟨g, 1, none⟩ b).setCell ⟨g, 2, none⟩ c).heap[g]? = some (.cells #[a, b, c] T (0, 0)) := by
  have a0 := heap_setCell_same w g 0 _ T a h0
  have a1 := heap_setCell_same _ g 1 _ T b a0
  exact heap_setCell_same _ g 2 _ T c a1
theorem heap_bl {w w' : World} {g : Nat} {o : Obj} (hb : Below w.heap.size w w') (h : w.heap[g]? = some o) : w'.heap[g]? = some o := by
  rw [hb.block g (lt_of_block h)]; exact h
theorem at_new3 {U W : World} {Z : Obj} {g : Nat} (hb : Below (U.alloc Z).heap.size (U.alloc Z) W) (hg : g = U.heap.size) : W.heap[g]? = some Z := by
  subst hg; exact heap_bl hb (heap_alloc_new U Z)
theorem bcl3 {W w1 : World} (hb : Below W.heap.size W w1) : (∀ b o, b < W.heap.size → w1.cell? ⟨b, o, none⟩ = W.cell? ⟨b, o, none⟩) ∧ (∀ b o, b < W.heap.size → w1.frozen? ⟨b, o, none⟩ = W.frozen? ⟨b, o, none⟩) :=
  ⟨fun b o h => hb.cell (p := ⟨b, o, none⟩) h, fun b o h => hb.frozen (p := ⟨b, o, none⟩) h⟩

set_option maxHeartbeats 800000 in
theorem to_spot_w (x y d : Int) (w : World) :
    Calls Try.prog 5 #[.agg #[.int .i64 x, .int .i64 y, .int .i64 d]] w fun e w' => e = .returned (.agg #[.int .i64 x, .int .i64 y, .int .i64 d]) ∧ w' = ((w.alloc (.cells #[.int .i64 x, .int .i64 y, .int .i64 d] 23)).alloc (.cells #[.int .i64 x, .int .i64 y, .int .i64 d] 28)).alloc (.cells #[.int .i64 x, .int .i64 y, .int .i64 d] 28) := by
  go_enter Try.func5, Try.ntmps5
  go_wp2
  exact bodyPost_ret (v := .agg #[.int .i64 x, .int .i64 y, .int .i64 d]) (by simp [results, Try.results5, go_sem]) rfl ⟨rfl, rfl⟩

end Go.Proofs.Ytkodoedkdgldnab
