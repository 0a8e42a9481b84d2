/- ShiftRegion of the program and of the model over the translation. -/
import Derived.Test.YtefafkainfhhkaaSh
import Derived.Shelf.Abstract
namespace Go.Proofs.Ytefafkainfhhkaa
open Go.RowKit Go.Shelf
open Geo (H3)

/-- what ShiftRegion answers -/
def shiB (ps : List H3) (dx dy : Int) : Bool := inB dx (-2000) 2000 && inB dy (-2000) 2000 && rokB ps && mvB (shB dx dy) (shM dx dy) [] ps
def shiL (ps : List H3) (dx dy : Int) : List H3 := if inB dx (-2000) 2000 = true ∧ inB dy (-2000) 2000 = true ∧ rokB ps = true then mvL (shB dx dy) (shM dx dy) [] ps else []
theorem shi_no {ps : List H3} {dx dy : Int} (h : inB dx (-2000) 2000 = false ∨ inB dy (-2000) 2000 = false ∨ rokB ps = false) : shiL ps dx dy = [] ∧ shiB ps dx dy = false := by
  refine ⟨?_, ?_⟩
  · unfold shiL; rw [if_neg]; rintro ⟨a, b, c⟩; rcases h with h | h | h <;> simp_all
  · unfold shiB; rcases h with h | h | h <;> simp [h]
theorem shi_yes {ps : List H3} {dx dy : Int} (h1 : inB dx (-2000) 2000 = true) (h2 : inB dy (-2000) 2000 = true) (h3 : rokB ps = true) : shiL ps dx dy = mvL (shB dx dy) (shM dx dy) [] ps ∧ shiB ps dx dy = mvB (shB dx dy) (shM dx dy) [] ps :=
  ⟨if_pos ⟨h1, h2, h3⟩, by unfold shiB; rw [h1, h2, h3]; simp⟩
theorem in2_of {d : Int} (h : inB d (-2000) 2000 = true) : In2k d := by unfold inB at h; simpa [In2k] using h
theorem mvL_len (B : H3 → Bool) (M : H3 → H3) (fu ps : List H3) : (mvL B M fu ps).length ≤ 40 := by
  unfold mvL
  split
  · rename_i h
    obtain ⟨h, n⟩ := h
    unfold mvB at h
    simp only [n, decide_false, Bool.false_or, Bool.and_eq_true] at h
    unfold okF at h
    simp only [Bool.and_eq_true, decide_eq_true_eq] at h
    exact h.2.2
  · simp
theorem AnsR.to {w V w' : World} {L M : List H3} {b c : Bool} {e : Ending} (h : AnsR V M c e w') (hL : L = M) (hb : b = c) (hV : Below w.heap.size w V) : AnsR w L b e w' := by
  subst hL; subst hb
  obtain ⟨ao, cp, e1, ho, hbl⟩ := h
  exact ⟨ao, cp, e1, own_base ho hV.size, below_to hV hbl⟩
theorem AnsR.put {w V w' : World} {L M : List H3} {b c : Bool} {ao : Option Addr} {m cp : Nat} {p : Addr} (ho : w'.ownsRow V.heap.size 88 3 (.slice ao m cp) m (flat M)) (hL : L = M) (hb : b = c) (hV : Below w.heap.size w V) (hbl : Below V.heap.size V w') (hp : p.block < V.heap.size) (hw : w.heap.size ≤ p.block) : AnsR w L b (.returned (.tuple #[.agg #[.slice ao m cp], .bool c])) (w'.setCell p (.slice ao m cp)) :=
  AnsR.yes hL.symm hb (own_base (own_far ho hp _) hV.size) ((below_to hV hbl).setCell hw _)
end Go.Proofs.Ytefafkainfhhkaa
