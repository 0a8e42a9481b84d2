/- What RobustPart, PreRegion, KeepRegion and IsKept answer. -/
import Derived.Test.YtdjjncofahnaaaaGreatKc
import Derived.Test.YtdjjncofahnaaaaGreatPc
import Derived.Test.YtdjjncofahnaaaaGreatEs
import Derived.Test.YtdjjncofahnaaaaGreatWk
namespace Go.Proofs.YtdjjncofahnaaaaGreat
open Go.RowKit
open Geo (H3)

theorem regE_len (hs : List H3) : (regE hs).length ≤ 40 := by
  unfold regE
  split
  · rename_i h
    unfold okF at h
    simp only [Bool.and_eq_true, decide_eq_true_eq] at h
    exact h.2
  · simp
theorem mvL_64 (B : H3 → Bool) (M : H3 → H3) (fu ps : List H3) : ∀ h ∈ mvL B M fu ps, In64 h := by
  intro h hh
  unfold mvL at hh
  split at hh
  · rename_i k
    obtain ⟨k1, k2⟩ := k
    unfold mvB at k1
    rw [decide_eq_false k2, Bool.false_or, Bool.and_eq_true] at k1
    have k3 := k1.2
    unfold okF at k3
    simp only [Bool.and_eq_true] at k3
    exact ok_in64 (regL_ok k3.1.2 h hh)
  · simp at hh
theorem ero_64 (ps qs : List H3) : ∀ h ∈ eroL ps qs, In64 h := by
  intro h hh
  unfold eroL at hh
  split at hh
  · exact mvL_64 _ _ _ _ h hh
  · simp at hh
theorem ero_len (ps qs : List H3) : (eroL ps qs).length ≤ 40 := by
  unfold eroL; split
  · exact mvL_len _ _ _ _
  · simp
theorem gw_64 {ps : List H3} (h64 : ∀ h ∈ ps, In64 h) (bx cy lo hi : Int) : ∀ h ∈ gwL ps bx cy lo hi, In64 h := by
  intro h hh
  unfold gwL at hh
  split at hh
  · split at hh
    · exact h64 h hh
    · split at hh
      · exact mvL_64 _ _ _ _ h hh
      · simp at hh
  · simp at hh
theorem pbk_64 (ps : List H3) (zs : List Int) (q : Int) : ∀ h ∈ pbkL ps zs q, In64 h := by
  intro h hh
  unfold pbkL at hh
  split at hh
  · exact mvL_64 _ _ _ _ h hh
  · simp at hh
theorem met_64 (ps qs : List H3) : ∀ h ∈ metL ps qs, In64 h := by
  intro h hh
  by_cases k : metB ps qs = true ∧ ps ≠ [] ∧ qs ≠ []
  · obtain ⟨k1, k2, k3⟩ := k
    unfold metB at k1
    simp only [Bool.and_eq_true] at k1
    obtain ⟨e1, e2⟩ := met_yes k1.1.1 k1.1.2 k2 k3
    rw [e1] at hh
    unfold regE at hh
    split at hh
    · rename_i k
      unfold okF at k
      simp only [Bool.and_eq_true] at k
      exact ok_in64 (regL_ok k.1.2 h hh)
    · simp at hh
  · unfold metL at hh
    rw [if_neg k] at hh
    simp at hh
theorem met_len (ps qs : List H3) : (metL ps qs).length ≤ 40 := by
  by_cases k : metB ps qs = true ∧ ps ≠ [] ∧ qs ≠ []
  · obtain ⟨k1, k2, k3⟩ := k
    have k4 := k1
    unfold metB at k1
    simp only [Bool.and_eq_true] at k1
    obtain ⟨e1, e2⟩ := met_yes k1.1.1 k1.1.2 k2 k3
    rw [e1]
    exact regE_len _
  · unfold metL
    rw [if_neg k]
    simp
/-- PreRegion of a room and a region -/
noncomputable def prG (bx cy lo hi : Int) (ps rs : List H3) : List H3 := gwL (eroL rs ps) bx cy lo hi
noncomputable def prB (zs : List Int) (q bx cy lo hi : Int) (ps qs rs : List H3) : Bool := rmB zs q bx cy lo hi ps qs && eroB rs ps && gwB (eroL rs ps) bx cy lo hi && pbkB (prG bx cy lo hi ps rs) zs q
noncomputable def prL (zs : List Int) (q bx cy lo hi : Int) (ps qs rs : List H3) : List H3 := if prB zs q bx cy lo hi ps qs rs = true then pbkL (prG bx cy lo hi ps rs) zs q else []
theorem pr_no {zs : List Int} {q bx cy lo hi : Int} {ps qs rs : List H3} (h : (rmB zs q bx cy lo hi ps qs && eroB rs ps && gwB (eroL rs ps) bx cy lo hi) = false) : prL zs q bx cy lo hi ps qs rs = [] ∧ prB zs q bx cy lo hi ps qs rs = false := by
  unfold prL prB; rw [h]; simp
theorem prG_64 (bx cy lo hi : Int) (ps rs : List H3) : ∀ h ∈ prG bx cy lo hi ps rs, In64 h := gw_64 (ero_64 rs ps) bx cy lo hi
theorem prG_len (bx cy lo hi : Int) (ps rs : List H3) : (prG bx cy lo hi ps rs).length ≤ 40 := gw_len _ bx cy lo hi
theorem prL_len (zs : List Int) (q bx cy lo hi : Int) (ps qs rs : List H3) : (prL zs q bx cy lo hi ps qs rs).length ≤ 40 := by
  unfold prL; split
  · exact pbk_len _ _ _
  · simp
theorem prL_64 (zs : List Int) (q bx cy lo hi : Int) (ps qs rs : List H3) : ∀ h ∈ prL zs q bx cy lo hi ps qs rs, In64 h := by
  intro h hh
  unfold prL at hh
  split at hh
  · exact pbk_64 _ _ _ h hh
  · simp at hh
/-- KeepRegion of a room and a region -/
noncomputable def kpB (zs : List Int) (q bx cy lo hi : Int) (ps qs rs : List H3) : Bool := prB zs q bx cy lo hi ps qs rs && metB rs (prL zs q bx cy lo hi ps qs rs)
noncomputable def kpL (zs : List Int) (q bx cy lo hi : Int) (ps qs rs : List H3) : List H3 := if prB zs q bx cy lo hi ps qs rs = true then metL rs (prL zs q bx cy lo hi ps qs rs) else []
theorem kp_no {zs : List Int} {q bx cy lo hi : Int} {ps qs rs : List H3} (h : prB zs q bx cy lo hi ps qs rs = false) : kpL zs q bx cy lo hi ps qs rs = [] ∧ kpB zs q bx cy lo hi ps qs rs = false := by
  unfold kpL kpB; rw [h]; simp
theorem kp_yes {zs : List Int} {q bx cy lo hi : Int} {ps qs rs : List H3} (h : prB zs q bx cy lo hi ps qs rs = true) : kpL zs q bx cy lo hi ps qs rs = metL rs (prL zs q bx cy lo hi ps qs rs) ∧ kpB zs q bx cy lo hi ps qs rs = metB rs (prL zs q bx cy lo hi ps qs rs) := by
  unfold kpL kpB; rw [h]; simp
theorem kpL_len (zs : List Int) (q bx cy lo hi : Int) (ps qs rs : List H3) : (kpL zs q bx cy lo hi ps qs rs).length ≤ 40 := by
  unfold kpL; split
  · exact met_len _ _
  · simp
/-- IsKept of a room and a region -/
noncomputable def ikB (zs : List Int) (q bx cy lo hi : Int) (ps qs rs : List H3) : Bool := prB zs q bx cy lo hi ps qs rs && wiB rs qs && wiB rs (prL zs q bx cy lo hi ps qs rs)
end Go.Proofs.YtdjjncofahnaaaaGreat
