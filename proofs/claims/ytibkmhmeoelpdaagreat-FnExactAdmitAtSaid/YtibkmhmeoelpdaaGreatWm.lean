/- The contract of the spec's HasSpot over the translation, and the walk of its law. The contracts of both BoxRegion functions over the translation, and the walk of their law. The contracts of both WholeSpots functions over the translation, and the walk of their law. -/
import Derived.Test.YtibkmhmeoelpdaaGreatRm
import Derived.Test.YtibkmhmeoelpdaaGreatVs
namespace Go.Proofs.YtibkmhmeoelpdaaGreat
open Go.RowKit
open Geo (H3)
theorem fourc {V X : World} {p q r s : Addr} {a b c d : Value} (h : V.cell? p = some a) (k : V.cell? q = some b) (l : V.cell? r = some c) (m : V.cell? s = some d) (hb : Below V.heap.size V X) : X.cell? p = some a ∧ X.cell? q = some b ∧ X.cell? r = some c ∧ X.cell? s = some d := ⟨cell_to h hb, cell_to k hb, cell_to l hb, cell_to m hb⟩
/-- a box within the frame, with an inside -/
def bxB (x0 y0 x1 y1 : Int) : Bool := decide (-1000 ≤ x0) && decide (x0 < x1) && decide (x1 ≤ 1000) && decide (-1000 ≤ y0) && decide (y0 < y1) && decide (y1 ≤ 1000)
/-- the half planes of a box -/
def bxL (x0 y0 x1 y1 : Int) : List H3 := if bxB x0 y0 x1 y1 = true then boxL x0 y0 x1 y1 else []
theorem bxL_no {x0 y0 x1 y1 : Int} (h : bxB x0 y0 x1 y1 = false) : bxL x0 y0 x1 y1 = [] := if_neg (by rw [h]; simp)
/-- an answer of a box and whether it is one -/
def BoxW (w : World) (hs : List H3) (b : Bool) (e : Ending) (w' : World) : Prop := ∃ ao cp, e = .returned (.tuple #[.agg #[.slice ao hs.length cp], .bool b]) ∧ w'.ownsRow w.heap.size 104 3 (.slice ao hs.length cp) hs.length (flat hs) ∧ Below w.heap.size w w'
theorem BoxW.no {w w' : World} {x0 y0 x1 y1 : Int} (h : bxB x0 y0 x1 y1 = false) (hb : Below w.heap.size w w') : BoxW w (bxL x0 y0 x1 y1) (bxB x0 y0 x1 y1) (.returned (.tuple #[.agg #[.slice none 0 0], .bool false])) w' := by
  unfold BoxW
  rw [bxL_no h, h]
  exact ⟨none, 0, rfl, own3_none, hb⟩
theorem BoxW.yes {w w' : World} {x0 y0 x1 y1 : Int} {ao : Option Addr} {cp : Nat} (h : bxB x0 y0 x1 y1 = true) (ho : w'.ownsRow w.heap.size 104 3 (.slice ao 4 cp) 4 (flat (boxL x0 y0 x1 y1))) (hb : Below w.heap.size w w') : BoxW w (bxL x0 y0 x1 y1) (bxB x0 y0 x1 y1) (.returned (.tuple #[.agg #[.slice ao 4 cp], .bool true])) w' := by
  unfold BoxW
  rw [show bxL x0 y0 x1 y1 = boxL x0 y0 x1 y1 from if_pos h, h]
  exact ⟨ao, cp, rfl, ho, hb⟩
end Go.Proofs.YtibkmhmeoelpdaaGreat
