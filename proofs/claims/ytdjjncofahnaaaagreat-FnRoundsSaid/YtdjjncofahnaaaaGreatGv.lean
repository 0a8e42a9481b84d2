/- GrowAlong's half planes of the model over the translation. GrowAlong of the model over the translation. -/
import Derived.Test.YtdjjncofahnaaaaGreatGs
import Derived.Test.YtdjjncofahnaaaaGreatEg
namespace Go.Proofs.YtdjjncofahnaaaaGreat
open Go.RowKit Go.Shelf
open Geo (H3)

/-- what the model's list of grown half planes is -/
def GrnW (w : World) (L : List H3) (b : Bool) (e : Ending) (w' : World) : Prop :=
  (b = true ∧ ∃ ao cp, e = .returned (.tuple #[.slice ao L.length cp, .bool true]) ∧ w'.ownsRow w.heap.size 39 3 (.slice ao L.length cp) L.length (flat L) ∧ Below w.heap.size w w') ∨ (b = false ∧ e = .returned (.tuple #[.slice none 0 0, .bool false]) ∧ Below w.heap.size w w')
theorem GrnW.yes {w w' : World} {L : List H3} {b : Bool} {ao : Option Addr} {m cp : Nat} (hb : b = true) (hm : L.length = m) (ho : w'.ownsRow w.heap.size 39 3 (.slice ao m cp) m (flat L)) (hbl : Below w.heap.size w w') : GrnW w L b (.returned (.tuple #[.slice ao m cp, .bool true])) w' := by
  subst hm; exact .inl ⟨hb, ao, cp, rfl, ho, hbl⟩
/-- the two directions in which a region does not grow -/
def gwD (bx cy : Int) : List H3 := [⟨-gwa bx cy, gwb bx cy, 0⟩, ⟨gwa bx cy, -gwb bx cy, 0⟩]
theorem gw_in5 {bx cy : Int} (hx : In100 bx) (hy : In100 cy) : ∀ x ∈ gwD bx cy, (-100 ≤ x.a ∧ x.a ≤ 100) ∧ (-100 ≤ x.b ∧ x.b ≤ 100) := by
  obtain ⟨t1, t2⟩ := td_in (g := Int.gcd bx cy) hx.1 hx.2
  obtain ⟨t3, t4⟩ := td_in (g := Int.gcd bx cy) hy.1 hy.2
  intro x hx
  unfold gwD at hx
  simp only [List.mem_cons, List.not_mem_nil, or_false] at hx
  rcases hx with rfl | rfl <;> simp only [gwa, gwb] <;> omega
theorem regL_swap {fu xs : List H3} (hok : (xs ++ fu).all okB = true) : regL (fu ++ xs) = regL (xs ++ fu) := by
  have h2 : (fu ++ xs).all okB = true := by rw [List.all_append, Bool.and_comm, ← List.all_append]; exact hok
  rw [← mod_reg hok]
  exact (mod_of hok (Inv_swap (regL_inv h2) fun x => by
    simp only [List.mem_append]
    constructor
    · rintro (h | h | h) <;> simp [h]
    · rintro ((h | h) | h) <;> simp [h])).symm
end Go.Proofs.YtdjjncofahnaaaaGreat
