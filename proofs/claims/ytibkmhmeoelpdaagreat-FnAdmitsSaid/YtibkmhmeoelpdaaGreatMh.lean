/- The contract of the program's CutRegion over the translation. -/
import Derived.Test.YtibkmhmeoelpdaaGreatMw
namespace Go.Proofs.YtibkmhmeoelpdaaGreat
open Go.RowKit
open Geo (H3)

/-- whether CutRegion answers, and with which edges -/
def cutB (ps : List H3) (h : H3) : Bool := rokB ps && okB h && decide (ps.length < 40)
def cutA (ps : List H3) (h : H3) : List H3 := if cutB ps h = true ∧ ps ≠ [] then regL (ps ++ [h]) else []
theorem cut_no1 {ps : List H3} {h : H3} (k : rokB ps = false) : cutA ps h = [] ∧ cutB ps h = false := by
  have : cutB ps h = false := by unfold cutB; rw [k]; rfl
  exact ⟨by unfold cutA; simp [this], this⟩
theorem cut_no2 {ps : List H3} {h : H3} (k : okB h = false) : cutA ps h = [] ∧ cutB ps h = false := by
  have : cutB ps h = false := by unfold cutB; rw [k]; simp
  exact ⟨by unfold cutA; simp [this], this⟩
theorem cut_big {ps : List H3} {h : H3} {n : Nat} (hl : ps.length = n) (k : ¬ n < 40) : cutA ps h = [] ∧ cutB ps h = false := by
  have : cutB ps h = false := by unfold cutB; rw [hl]; simp [k]
  exact ⟨by unfold cutA; simp [this], this⟩
theorem cut_void {ps : List H3} {h : H3} (k : okB h = true) (n : ps = []) : cutA ps h = [] ∧ cutB ps h = true := by
  subst n
  refine ⟨by unfold cutA; simp, ?_⟩
  unfold cutB; rw [k]; rfl
theorem cut_mod {ps : List H3} {h : H3} {n : Nat} (hl : ps.length = n) (p : rokB ps = true) (k : okB h = true) (l : n < 40) (ne : ps ≠ []) : modL (ps ++ [h]) = cutA ps h ∧ cutB ps h = true := by
  have e : cutB ps h = true := by unfold cutB; rw [p, k, hl]; simp [l]
  refine ⟨?_, e⟩
  rw [mod_reg (by rw [List.all_append, rok_allB p]; simp [k])]
  unfold cutA; rw [if_pos ⟨e, ne⟩]
end Go.Proofs.YtibkmhmeoelpdaaGreat
