/- The contract of the spec's HasSpot over the translation, and the walk of its law. -/
import Derived.Test.YtobmaajfdpcfmaaHs
import Derived.Test.YtobmaajfdpcfmaaSl
namespace Go.Proofs.Ytobmaajfdpcfmaa
open Go.RowKit
open Geo (H3)

theorem has_sno {hs : List H3} {x y d : Int} (h : okS x y d = false) : hasB hs x y d = false := by
  unfold hasB
  by_cases h0 : hs = []
  · simp [h0]
  · obtain ⟨z, hz⟩ := List.exists_mem_of_ne_nil hs h0
    rw [Bool.and_eq_false_iff]
    exact Or.inr (by rw [List.all_eq_false]; exact ⟨z, hz, by simp [holdH, h]⟩)
theorem has_lha {hs : List H3} {x y d : Int} (h : rokB hs = true) (k : okS x y d = true) : hasB hs x y d = lhaB hs x y d := by
  unfold hasB lhaB
  rw [h, Bool.true_and, Bool.and_comm]
  refine congrArg (· && decide (hs ≠ [])) ?_
  refine Bool.eq_iff_iff.2 ?_
  simp only [List.all_eq_true]
  refine forall_congr' fun z => forall_congr' fun hz => ?_
  have := rok_all h z hz
  unfold okB at this
  unfold holdH
  rw [this, k]; rfl
theorem fourc {V X : World} {p q r s : Addr} {a b c d : Value} (h : V.cell? p = some a) (k : V.cell? q = some b) (l : V.cell? r = some c) (m : V.cell? s = some d) (hb : Below V.heap.size V X) : X.cell? p = some a ∧ X.cell? q = some b ∧ X.cell? r = some c ∧ X.cell? s = some d := ⟨cell_to h hb, cell_to k hb, cell_to l hb, cell_to m hb⟩
end Go.Proofs.Ytobmaajfdpcfmaa
