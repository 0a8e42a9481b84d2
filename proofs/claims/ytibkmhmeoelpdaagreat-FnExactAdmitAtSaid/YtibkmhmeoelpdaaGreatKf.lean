/- CentreInput and IsInput of the program and of the model, over the translation. IsInput of the program and of the model, over the translation. -/
import Derived.Test.YtibkmhmeoelpdaaGreatKd
import Derived.Test.YtibkmhmeoelpdaaGreatCq
namespace Go.Proofs.YtibkmhmeoelpdaaGreat
open Go.RowKit
open Geo (H3)
theorem rm_rng {zs : List Int} {q bx cy lo hi : Int} {ps qs : List H3} (h : rmB zs q bx cy lo hi ps qs = true) : (-1000 ≤ lo ∧ lo ≤ 1000) ∧ (lo ≤ hi ∧ hi ≤ 1000) ∧ mapB zs q = true ∧ (-100 ≤ bx ∧ bx ≤ 100) ∧ (-100 ≤ cy ∧ cy ≤ 100) ∧ ps ≠ [] ∧ rokB ps = true ∧ qs ≠ [] ∧ rokB qs = true := by
  rw [rm_eq] at h
  simp only [Bool.and_eq_true, Bool.not_eq_true', decide_eq_false_iff_not] at h
  obtain ⟨⟨⟨⟨⟨⟨⟨⟨⟨h1, _⟩, h2⟩, h3⟩, h4⟩, h5⟩, h6⟩, h7⟩, h8⟩, h9⟩ := h
  exact ⟨of_inB h4, of_inB h5, h1, of_inB h2, of_inB h3, h8, h6, h9, h7⟩

end Go.Proofs.YtibkmhmeoelpdaaGreat
