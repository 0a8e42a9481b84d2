/- The contracts of both CornersOf functions over the translation, and the walk of their law. The contracts of the model's CornersOf over the translation. The walk of the law of CornersOf. -/
import Derived.Test.YtdjjncofahnaaaaGreatWm
namespace Go.Proofs.YtdjjncofahnaaaaGreat
open Go.RowKit
open Geo (H3)
theorem crn_ex (f g : H3) : ∃ (p : H3) (B : Bool), crsV f.a f.b f.c g.a g.b g.c = .tuple #[.agg #[.int .i64 p.a, .int .i64 p.b, .int .i64 p.c], .bool B] := by
  obtain ⟨X, Y, D, B, h⟩ := crsV_ex f.a f.b f.c g.a g.b g.c
  exact ⟨⟨X, Y, D⟩, B, h⟩
/-- where two borders cross -/
noncomputable def crn (f g : H3) : H3 := Classical.choose (crn_ex f g)
theorem crn_eq (f g : H3) : ∃ B : Bool, crsV f.a f.b f.c g.a g.b g.c = .tuple #[.agg #[.int .i64 (crn f g).a, .int .i64 (crn f g).b, .int .i64 (crn f g).c], .bool B] := Classical.choose_spec (crn_ex f g)
/-- the first crossings of a region's edges -/
noncomputable def corL (hs : List H3) (k : Nat) : List H3 := (List.range k).map fun i => crn (atI hs i) (atI hs ((i + 1) % hs.length))
theorem corL_len (hs : List H3) (k : Nat) : (corL hs k).length = k := by simp [corL]
/-- the corners of a region -/
noncomputable def corR (hs : List H3) : List H3 := if rokB hs = true then corL hs hs.length else []
/-- a new row of spots is handed back -/
def SpW (w : World) (ps : List H3) (e : Ending) (w' : World) : Prop := ∃ ao cp, e = .returned (.slice ao ps.length cp) ∧ w'.ownsRow w.heap.size 48 3 (.slice ao ps.length cp) ps.length (flat ps) ∧ Below w.heap.size w w'
theorem SpW.no {w w' : World} {hs : List H3} (h : rokB hs = false) (hb : Below w.heap.size w w') : SpW w (corR hs) (.returned (.slice none 0 0)) w' := by
  unfold corR; rw [if_neg (by rw [h]; simp)]
  exact ⟨none, 0, rfl, own3_none, hb⟩
theorem SpW.yes {w w' : World} {hs : List H3} {n cp : Nat} {ao : Option Addr} (h : rokB hs = true) (hl : hs.length = n) (ho : w'.ownsRow w.heap.size 48 3 (.slice ao n cp) n (flat (corL hs n))) (hb : Below w.heap.size w w') : SpW w (corR hs) (.returned (.slice ao n cp)) w' := by
  subst hl
  unfold corR; rw [if_pos h]
  unfold SpW; rw [corL_len]
  exact ⟨ao, cp, rfl, ho, hb⟩
theorem bl_next {W X Y : World} (h : Below W.heap.size W X) (k : Below X.heap.size X Y) : Below W.heap.size W Y := below_to h k
end Go.Proofs.YtdjjncofahnaaaaGreat
