/- What is true of the regions that rooms are kept in (no calls). -/
import Derived.Test.YtdjjncofahnaaaaGreatBg
import Derived.Test.YtdjjncofahnaaaaGreatDn
namespace Go.Proofs.YtdjjncofahnaaaaGreat
open Go.RowKit
open Geo (H3)

section
variable {zs : List Int} {q bx cy lo hi : Int} {ps qs : List H3}
theorem rrG_some {m : Int} (h : rrB zs q bx cy lo hi ps qs m = true) : rmB zs q bx cy lo hi ps qs = true ∧ rrG zs q bx cy lo hi ps qs m = some (rrL zs q bx cy lo hi ps qs m, rrN zs q bx cy lo hi ps qs m, rrS zs q bx cy lo hi ps qs m) ∧ rrF zs q bx cy lo hi ps qs m.toNat qs 0 = some (rrL zs q bx cy lo hi ps qs m, rrN zs q bx cy lo hi ps qs m, rrS zs q bx cy lo hi ps qs m) := by
  cases e : rrG zs q bx cy lo hi ps qs m with
  | none => rw [(rr_none e).2.2.2] at h; cases h
  | some x =>
    obtain ⟨L, N, S⟩ := x
    obtain ⟨e1, e2, e3, _⟩ := rr_some e
    rw [e1, e2, e3]
    have e' := e
    unfold rrG at e'
    split at e'
    · rename_i c
      exact ⟨c.2, rfl, e'⟩
    · cases e'
/-- the greatest region that is kept -/
theorem kg_facts (h : kgB zs q bx cy lo hi ps qs = true) : rmB zs q bx cy lo hi ps qs = true ∧ rokB (kgL zs q bx cy lo hi ps qs) = true ∧ Sub (kgL zs q bx cy lo hi ps qs) qs ∧ prB zs q bx cy lo hi ps qs (kgL zs q bx cy lo hi ps qs) = true ∧ Sub (kgL zs q bx cy lo hi ps qs) (prL zs q bx cy lo hi ps qs (kgL zs q bx cy lo hi ps qs)) ∧ kgN zs q bx cy lo hi ps qs = (rrN zs q bx cy lo hi ps qs 12 : Int) ∧
    ∀ us, rokB us = true → Sub us qs → (∀ rs', kpB zs q bx cy lo hi ps qs rs' = true → Sub us rs' → Sub us (prL zs q bx cy lo hi ps qs rs')) → Sub us (kgL zs q bx cy lo hi ps qs) := by
  obtain ⟨e1, _, e3, _⟩ := kg_yes h
  unfold kgB at h
  rw [Bool.and_eq_true] at h
  obtain ⟨rm, _, e⟩ := rrG_some h.1
  rw [h.2] at e
  obtain ⟨r, n, _, _⟩ := rm_qs rm
  obtain ⟨f1, f2, _, _, f5, f6⟩ := rrF_facts _ qs 0 r _ _ _ e
  obtain ⟨k1, k2⟩ := f5 rfl
  obtain ⟨p1, p2⟩ := stop_kept k1 k2
  rw [e1]
  exact ⟨rm, f1, f2, p1, p2, e3, f6⟩
theorem kg_ik (h : kgB zs q bx cy lo hi ps qs = true) : ikB zs q bx cy lo hi ps qs (kgL zs q bx cy lo hi ps qs) = true ∧ wiB (kgL zs q bx cy lo hi ps qs) qs = true := by
  obtain ⟨rm, r, s, b, t, _⟩ := kg_facts h
  obtain ⟨rq, _⟩ := rm_qs rm
  exact ⟨ik_of b rq s t, s.wi r rq⟩
/-- a wider range of inputs -/
theorem kg_wider {lo' hi' : Int} (h : kgB zs q bx cy lo hi ps qs = true) (h' : kgB zs q bx cy lo' hi' ps qs = true) (h1 : lo' ≤ lo) (h2 : hi ≤ hi') : wiB (kgL zs q bx cy lo hi ps qs) (kgL zs q bx cy lo' hi' ps qs) = true := by
  obtain ⟨_, r, s, b, t, _⟩ := kg_facts h
  obtain ⟨_, r', _, _, _, _, g⟩ := kg_facts h'
  refine Sub.wi r r' (g _ r s (fun rs' k s' => t.trans (pr_mono b (kp_parts k).1 h1 h2 s')))
/-- narrower limits -/
theorem kg_narrow {qs' : List H3} (h : kgB zs q bx cy lo hi ps qs = true) (h' : kgB zs q bx cy lo hi ps qs' = true) (s0 : Sub qs' qs) : wiB (kgL zs q bx cy lo hi ps qs') (kgL zs q bx cy lo hi ps qs) = true ∧ ikB zs q bx cy lo hi ps qs (kgL zs q bx cy lo hi ps qs') = true := by
  obtain ⟨rm, r, _, _, _, _, g⟩ := kg_facts h
  obtain ⟨_, r', s', b', t', _⟩ := kg_facts h'
  obtain ⟨rq, _⟩ := rm_qs rm
  obtain ⟨_, e', g', p', eL'⟩ := pr_parts b'
  have b : prB zs q bx cy lo hi ps qs (kgL zs q bx cy lo hi ps qs') = true := by unfold prB; rw [rm, e', g', p']; rfl
  have eL : prL zs q bx cy lo hi ps qs (kgL zs q bx cy lo hi ps qs') = prL zs q bx cy lo hi ps qs' (kgL zs q bx cy lo hi ps qs') := by rw [eL', (pr_parts b).2.2.2.2]
  have s := s'.trans s0
  rw [← eL] at t'
  refine ⟨Sub.wi r' r (g _ r' s (fun rs' k s'' => t'.trans (pr_mono b (kp_parts k).1 (Int.le_refl _) (Int.le_refl _) s''))), ik_of b rq s t'⟩
end
theorem sub_cut {qs : List H3} {h : H3} (b : cutB qs h = true) (n : qs ≠ []) : Sub (cutA qs h) qs ∧ rokB (cutA qs h) = true := by
  have e : cutA qs h = regL (qs ++ [h]) := by unfold cutA; rw [if_pos ⟨b, n⟩]
  unfold cutB at b
  simp only [Bool.and_eq_true, decide_eq_true_eq] at b
  obtain ⟨⟨r, k⟩, l⟩ := b
  have ok := all_app (ks := [h]) (rok_allB r) (by simp [k])
  have ln : (regL (qs ++ [h])).length ≤ 40 := by have := reg_more (ks := [h]) r n; simp at this; omega
  rw [e]
  have := sub_reg ok (rok_allB r) (fun X Y W w k g hg => k g (List.mem_append_right _ (List.mem_append_left _ hg)))
  rw [rok_reg r n] at this
  exact ⟨this, rok_regL ok ln⟩
end Go.Proofs.YtdjjncofahnaaaaGreat
