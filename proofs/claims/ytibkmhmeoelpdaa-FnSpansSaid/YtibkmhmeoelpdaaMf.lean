/- The walk of the law of MeetRegions. -/
import Derived.Test.YtibkmhmeoelpdaaMw
namespace Go.Proofs.Ytibkmhmeoelpdaa
open Go.RowKit
open Geo (H3)

/-- a region lies in a box that is new since W, its row too -/
def BoxR (W : World) (L : List H3) (len : Nat) (v : Value) (wx : World) : Prop :=
  ∃ g ao cp, v = .pointer (some ⟨g, 0, none⟩) ∧ W.heap.size ≤ g ∧ wx.heap[g]? = some (.cells #[.slice ao len cp] 56 (0, 0)) ∧ wx.ownsRow W.heap.size 60 3 (.slice ao len cp) len (flat L) ∧ Below W.heap.size W wx
theorem blx_next {W X Y : World} (h : Below W.heap.size W X) (k : Below X.heap.size X Y) : Below W.heap.size W Y := below_to h k
theorem heap_set1 {w : World} {g : Nat} {x : Value} {T : TypeId} (a : Value) (h0 : w.heap[g]? = some (.cells #[x] T (0, 0))) : (w.setCell ⟨g, 0, none⟩ a).heap[g]? = some (.cells #[a] T (0, 0)) :=
  heap_setCell_same w g 0 _ T a h0
theorem BoxR.last {W wC : World} {L : List H3} {B len cC : Nat} {aC : Option Addr} (ho : wC.ownsRow B 60 3 (.slice aC len cC) len (flat L)) (hB : W.heap.size ≤ B) (hb : Below W.heap.size W wC) : BoxR W L len (.pointer (some ⟨wC.heap.size, 0, none⟩)) (wC.alloc (.cells #[.slice aC len cC] 56)) :=
  ⟨wC.heap.size, aC, cC, rfl, hb.size, heap_alloc_new wC _, own_base (own_below ho (below_one wC _)) hB, below_bx2 hb _⟩
theorem BoxR.early {W U wC : World} {L : List H3} {B len cC : Nat} {aC : Option Addr} {x : Value} (hU : Below (U.alloc (.cells #[x] 56)).heap.size (U.alloc (.cells #[x] 56)) wC) (hW : W.heap.size ≤ U.heap.size) (ho : wC.ownsRow B 60 3 (.slice aC len cC) len (flat L)) (hB : U.heap.size < B) (hb : Below W.heap.size W wC) :
    BoxR W L len (.pointer (some ⟨U.heap.size, 0, none⟩)) (wC.setCell ⟨U.heap.size, 0, none⟩ (.slice aC len cC)) :=
  ⟨U.heap.size, aC, cC, rfl, hW, heap_set1 _ (at_new3 hU rfl), own_base (own_far (p := ⟨U.heap.size, 0, none⟩) ho hB _) (by omega), hb.setCell hW _⟩
end Go.Proofs.Ytibkmhmeoelpdaa
