/- The model's sum of two fractions (small ones) over the translation. The model's half plane with a fraction, over the translation. ErodeRegion of the model over the translation. -/
import Derived.Test.YtibkmhmeoelpdaaEg
namespace Go.Proofs.Ytibkmhmeoelpdaa
open Go.RowKit Go.Shelf
open Geo (H3)

theorem quo_most {D : Int} (h1 : 1 ≤ D) (h2 : D ≤ 5000000000) : 1800000000 ≤ (9000000000000000000 : Int).tdiv D ∧ (9000000000000000000 : Int).tdiv D ≤ 9000000000000000000 := by
  rw [Int.tdiv_eq_ediv_of_nonneg (by omega)]
  refine ⟨(Int.le_ediv_iff_mul_le (by omega)).2 (by omega), ?_⟩
  exact Int.ediv_le_self _ (by omega)
/-- the model's half plane with a fraction as its C -/
def topB (A B N D : Int) : Bool := decide (D ≤ 50000) && hasH (A * D) (B * D) N
def topH (A B N D : Int) : H3 := if D ≤ 50000 then redH (A * D) (B * D) N else ⟨0, 0, 0⟩
theorem top_yes {A B N D : Int} (hD : D ≤ 50000) : topH A B N D = redH (A * D) (B * D) N ∧ topB A B N D = hasH (A * D) (B * D) N := ⟨if_pos hD, by unfold topB; rw [decide_eq_true hD]; simp⟩
theorem top_no {A B N D : Int} (hD : ¬ D ≤ 50000) : topH A B N D = ⟨0, 0, 0⟩ ∧ topB A B N D = false := ⟨if_neg hD, by unfold topB; rw [decide_eq_false hD]; simp⟩
/-- the model's answer is the program's -/
theorem top_er {qs : List H3} {h : H3} (hq : rokB qs = true) (ne : qs ≠ []) (k : okB h = true) : topB h.a h.b (h.c * erD qs h + -erN qs h) (erD qs h) = erB qs h ∧ (erB qs h = true → topH h.a h.b (h.c * erD qs h + -erN qs h) (erD qs h) = erM qs h) := by
  obtain ⟨_, _, _, _, _, g, _⟩ := er_in hq ne k
  rw [show h.c * erD qs h + -erN qs h = h.c * erD qs h - erN qs h from rfl]
  by_cases hD : erD qs h ≤ 50000
  · exact ⟨(top_yes hD).2, fun _ => (top_yes hD).1⟩
  · have e : erB qs h = false := er_big g (by omega) (ok_in k).2.2.2.1
    rw [e, (top_no hD).2]
    exact ⟨rfl, by simp⟩

end Go.Proofs.Ytibkmhmeoelpdaa
