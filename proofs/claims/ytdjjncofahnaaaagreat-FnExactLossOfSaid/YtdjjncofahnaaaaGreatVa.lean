/- What RobustPart, PreRegion, KeepRegion and IsKept answer. -/
import Derived.Test.YtdjjncofahnaaaaGreatKc
import Derived.Test.YtdjjncofahnaaaaGreatPc
import Derived.Test.YtdjjncofahnaaaaGreatEs
import Derived.Test.YtdjjncofahnaaaaGreatWk
namespace Go.Proofs.YtdjjncofahnaaaaGreat
open Go.RowKit
open Geo (H3)

theorem regE_len (hs : List H3) : (regE hs).length ≤ 40 := by
  unfold regE
  split
  · rename_i h
    unfold okF at h
    simp only [Bool.and_eq_true, decide_eq_true_eq] at h
    exact h.2
  · simp
theorem mvL_64 (B : H3 → Bool) (M : H3 → H3) (fu ps : List H3) : ∀ h ∈ mvL B M fu ps, In64 h := by
  intro h hh
  unfold mvL at hh
  split at hh
  · rename_i k
    obtain ⟨k1, k2⟩ := k
    unfold mvB at k1
    rw [decide_eq_false k2, Bool.false_or, Bool.and_eq_true] at k1
    have k3 := k1.2
    unfold okF at k3
    simp only [Bool.and_eq_true] at k3
    exact ok_in64 (regL_ok k3.1.2 h hh)
  · simp at hh
theorem mv_f {B : H3 → Bool} {M : H3 → H3} {fu ps : List H3} (h : mvB B M fu ps = false) : mvL B M fu ps = [] := by
  unfold mvL; rw [if_neg]; rw [h]; simp
theorem ero_64 (ps qs : List H3) : ∀ h ∈ eroL ps qs, In64 h := by
  intro h hh
  unfold eroL at hh
  split at hh
  · exact mvL_64 _ _ _ _ h hh
  · simp at hh
theorem ero_len (ps qs : List H3) : (eroL ps qs).length ≤ 40 := by
  unfold eroL; split
  · exact mvL_len _ _ _ _
  · simp
theorem ero_f {ps qs : List H3} (h : eroB ps qs = false) : eroL ps qs = [] := by
  by_cases k : rokB ps = true ∧ rokB qs = true ∧ qs ≠ []
  · obtain ⟨e1, e2⟩ := ero_yes k.1 k.2.1 k.2.2
    rw [e1]
    exact mv_f (by rw [← e2]; exact h)
  · unfold eroL; rw [if_neg k]
theorem gw_64 {ps : List H3} (h64 : ∀ h ∈ ps, In64 h) (bx cy lo hi : Int) : ∀ h ∈ gwL ps bx cy lo hi, In64 h := by
  intro h hh
  unfold gwL at hh
  split at hh
  · split at hh
    · exact h64 h hh
    · split at hh
      · exact mvL_64 _ _ _ _ h hh
      · simp at hh
  · simp at hh
theorem gw_f {ps : List H3} {bx cy lo hi : Int} (h : gwB ps bx cy lo hi = false) : gwL ps bx cy lo hi = [] := by
  cases hc : gwC ps bx cy lo hi with
  | false => exact (gw_no hc).1
  | true =>
    by_cases k : ps = [] ∨ (bx = 0 ∧ cy = 0)
    · rw [(gw_same hc k).2] at h; cases h
    · have n : ps ≠ [] := fun e => k (.inl e)
      have z : ¬ (bx = 0 ∧ cy = 0) := fun e => k (.inr e)
      cases ht : gwT ps bx cy with
      | false => exact (gw_tno n z ht).1
      | true =>
        obtain ⟨e1, e2⟩ := gw_yes hc n z ht
        rw [e1]
        exact mv_f (by rw [← e2]; exact h)
theorem pbk_64 (ps : List H3) (zs : List Int) (q : Int) : ∀ h ∈ pbkL ps zs q, In64 h := by
  intro h hh
  unfold pbkL at hh
  split at hh
  · exact mvL_64 _ _ _ _ h hh
  · simp at hh
theorem pbk_f {ps : List H3} {zs : List Int} {q : Int} (h : pbkB ps zs q = false) : pbkL ps zs q = [] := by
  cases hc : pbkC ps zs q with
  | false => exact (pbk_no hc).1
  | true =>
    obtain ⟨e1, e2⟩ := pbk_yes hc
    rw [e1]
    exact mv_f (by rw [← e2]; exact h)
theorem met_64 (ps qs : List H3) : ∀ h ∈ metL ps qs, In64 h := by
  intro h hh
  by_cases k : metB ps qs = true ∧ ps ≠ [] ∧ qs ≠ []
  · obtain ⟨k1, k2, k3⟩ := k
    unfold metB at k1
    simp only [Bool.and_eq_true] at k1
    obtain ⟨e1, e2⟩ := met_yes k1.1.1 k1.1.2 k2 k3
    rw [e1] at hh
    unfold regE at hh
    split at hh
    · rename_i k
      unfold okF at k
      simp only [Bool.and_eq_true] at k
      exact ok_in64 (regL_ok k.1.2 h hh)
    · simp at hh
  · unfold metL at hh
    rw [if_neg k] at hh
    simp at hh
theorem met_len (ps qs : List H3) : (metL ps qs).length ≤ 40 := by
  by_cases k : metB ps qs = true ∧ ps ≠ [] ∧ qs ≠ []
  · obtain ⟨k1, k2, k3⟩ := k
    have k4 := k1
    unfold metB at k1
    simp only [Bool.and_eq_true] at k1
    obtain ⟨e1, e2⟩ := met_yes k1.1.1 k1.1.2 k2 k3
    rw [e1]
    exact regE_len _
  · unfold metL
    rw [if_neg k]
    simp
theorem met_f {ps qs : List H3} (h : metB ps qs = false) : metL ps qs = [] := by
  unfold metL; rw [if_neg]; rw [h]; simp

/-- RobustPart of a room and a region -/
noncomputable def rpB (zs : List Int) (q bx cy lo hi : Int) (ps qs rs : List H3) : Bool := rmB zs q bx cy lo hi ps qs && eroB rs ps
noncomputable def rpL (zs : List Int) (q bx cy lo hi : Int) (ps qs rs : List H3) : List H3 := if rmB zs q bx cy lo hi ps qs = true then eroL rs ps else []
theorem rp_no {zs : List Int} {q bx cy lo hi : Int} {ps qs rs : List H3} (h : rmB zs q bx cy lo hi ps qs = false) : rpL zs q bx cy lo hi ps qs rs = [] ∧ rpB zs q bx cy lo hi ps qs rs = false := by
  unfold rpL rpB; rw [h]; simp
theorem rp_yes {zs : List Int} {q bx cy lo hi : Int} {ps qs rs : List H3} (h : rmB zs q bx cy lo hi ps qs = true) : rpL zs q bx cy lo hi ps qs rs = eroL rs ps ∧ rpB zs q bx cy lo hi ps qs rs = eroB rs ps := by
  unfold rpL rpB; rw [h]; simp
/-- PreRegion of a room and a region -/
noncomputable def prG (bx cy lo hi : Int) (ps rs : List H3) : List H3 := gwL (eroL rs ps) bx cy lo hi
noncomputable def prB (zs : List Int) (q bx cy lo hi : Int) (ps qs rs : List H3) : Bool := rmB zs q bx cy lo hi ps qs && eroB rs ps && gwB (eroL rs ps) bx cy lo hi && pbkB (prG bx cy lo hi ps rs) zs q
noncomputable def prL (zs : List Int) (q bx cy lo hi : Int) (ps qs rs : List H3) : List H3 := if prB zs q bx cy lo hi ps qs rs = true then pbkL (prG bx cy lo hi ps rs) zs q else []
theorem pr_no {zs : List Int} {q bx cy lo hi : Int} {ps qs rs : List H3} (h : (rmB zs q bx cy lo hi ps qs && eroB rs ps && gwB (eroL rs ps) bx cy lo hi) = false) : prL zs q bx cy lo hi ps qs rs = [] ∧ prB zs q bx cy lo hi ps qs rs = false := by
  unfold prL prB; rw [h]; simp
theorem pr_yes {zs : List Int} {q bx cy lo hi : Int} {ps qs rs : List H3} (h : (rmB zs q bx cy lo hi ps qs && eroB rs ps && gwB (eroL rs ps) bx cy lo hi) = true) : prL zs q bx cy lo hi ps qs rs = pbkL (prG bx cy lo hi ps rs) zs q ∧ prB zs q bx cy lo hi ps qs rs = pbkB (prG bx cy lo hi ps rs) zs q := by
  unfold prL prB
  rw [h, Bool.true_and]
  refine ⟨?_, rfl⟩
  split
  · rfl
  · rename_i k
    exact (pbk_f (by simpa using k)).symm
theorem prG_64 (bx cy lo hi : Int) (ps rs : List H3) : ∀ h ∈ prG bx cy lo hi ps rs, In64 h := gw_64 (ero_64 rs ps) bx cy lo hi
theorem prG_len (bx cy lo hi : Int) (ps rs : List H3) : (prG bx cy lo hi ps rs).length ≤ 40 := gw_len _ bx cy lo hi
theorem rpL_len (zs : List Int) (q bx cy lo hi : Int) (ps qs rs : List H3) : (rpL zs q bx cy lo hi ps qs rs).length ≤ 40 := by
  unfold rpL; split
  · exact ero_len _ _
  · simp
theorem prL_len (zs : List Int) (q bx cy lo hi : Int) (ps qs rs : List H3) : (prL zs q bx cy lo hi ps qs rs).length ≤ 40 := by
  unfold prL; split
  · exact pbk_len _ _ _
  · simp
theorem prL_64 (zs : List Int) (q bx cy lo hi : Int) (ps qs rs : List H3) : ∀ h ∈ prL zs q bx cy lo hi ps qs rs, In64 h := by
  intro h hh
  unfold prL at hh
  split at hh
  · exact pbk_64 _ _ _ h hh
  · simp at hh
/-- KeepRegion of a room and a region -/
noncomputable def kpB (zs : List Int) (q bx cy lo hi : Int) (ps qs rs : List H3) : Bool := prB zs q bx cy lo hi ps qs rs && metB rs (prL zs q bx cy lo hi ps qs rs)
noncomputable def kpL (zs : List Int) (q bx cy lo hi : Int) (ps qs rs : List H3) : List H3 := if prB zs q bx cy lo hi ps qs rs = true then metL rs (prL zs q bx cy lo hi ps qs rs) else []
theorem kp_no {zs : List Int} {q bx cy lo hi : Int} {ps qs rs : List H3} (h : prB zs q bx cy lo hi ps qs rs = false) : kpL zs q bx cy lo hi ps qs rs = [] ∧ kpB zs q bx cy lo hi ps qs rs = false := by
  unfold kpL kpB; rw [h]; simp
theorem kp_yes {zs : List Int} {q bx cy lo hi : Int} {ps qs rs : List H3} (h : prB zs q bx cy lo hi ps qs rs = true) : kpL zs q bx cy lo hi ps qs rs = metL rs (prL zs q bx cy lo hi ps qs rs) ∧ kpB zs q bx cy lo hi ps qs rs = metB rs (prL zs q bx cy lo hi ps qs rs) := by
  unfold kpL kpB; rw [h]; simp
theorem kpL_len (zs : List Int) (q bx cy lo hi : Int) (ps qs rs : List H3) : (kpL zs q bx cy lo hi ps qs rs).length ≤ 40 := by
  unfold kpL; split
  · exact met_len _ _
  · simp
/-- IsKept of a room and a region -/
noncomputable def ikB (zs : List Int) (q bx cy lo hi : Int) (ps qs rs : List H3) : Bool := prB zs q bx cy lo hi ps qs rs && wiB rs qs && wiB rs (prL zs q bx cy lo hi ps qs rs)
end Go.Proofs.YtdjjncofahnaaaaGreat
