/- What is true of the first rounds and of the loss (no calls). -/
import Derived.Test.YtdjjncofahnaaaaGreatEb
import Derived.Test.YtdjjncofahnaaaaGreatDl
namespace Go.Proofs.YtdjjncofahnaaaaGreat
open Go.RowKit
open Geo (H3)

theorem lxF_zero {rs : List H3} (r : rokB rs = true) (n : rs ≠ []) (hs : List H3) : ∀ s : Int × Int, okR s.1 s.2 = true → 0 ≤ s.1 → (∀ h ∈ hs, okB h = true) →
    0 ≤ (hs.foldl (fun s h => maxP s.1 s.2 (lxN rs h) (lxD rs h)) s).1 ∧ ((hs.foldl (fun s h => maxP s.1 s.2 (lxN rs h) (lxD rs h)) s).1 = 0 ↔ s.1 = 0 ∧ ∀ h ∈ hs, lxN rs h ≤ 0) := by
  induction hs with
  | nil => intro s _ h _; exact ⟨h, by simp⟩
  | cons h t ih =>
    intro s hs h0 k
    rw [List.foldl_cons]
    have lk := (lx_ok r n (k h (by simp))).1
    have m := max_ok hs lk
    have key : 0 ≤ (maxP s.1 s.2 (lxN rs h) (lxD rs h)).1 ∧ ((maxP s.1 s.2 (lxN rs h) (lxD rs h)).1 = 0 ↔ s.1 = 0 ∧ lxN rs h ≤ 0) := by
      have p1 := ((okR_iff _ _).1 hs).1
      have p2 := ((okR_iff _ _).1 lk).1
      unfold maxP
      rw [if_pos ⟨hs, lk⟩]
      unfold cmpR
      generalize lxN rs h = c at *
      generalize lxD rs h = d at *
      obtain ⟨a, b⟩ := s
      simp only at *
      by_cases q : a * d < c * b
      · rw [if_pos q, if_neg (by omega)]
        have h1 := Int.mul_nonneg h0 (show 0 ≤ d by omega)
        have hc : 0 < c := by
          rcases Int.lt_or_le 0 c with x | x
          · exact x
          · have := Int.mul_nonpos_of_nonpos_of_nonneg x (show 0 ≤ b by omega)
            omega
        simp only
        omega
      · have e : (0 : Int) ≤ (if a * d < c * b then -1 else if c * b < a * d then 1 else 0) := by rw [if_neg q]; split <;> omega
        rw [if_pos e]
        simp only
        refine ⟨h0, fun z => ⟨z, ?_⟩, fun z => z.1⟩
        subst z
        rw [Int.zero_mul] at q
        rcases Int.lt_or_le 0 c with x | x
        · have := Int.mul_pos x (show 0 < b by omega)
          omega
        · exact x
    obtain ⟨i1, i2⟩ := ih _ m key.1 (fun x hx => k x (List.mem_cons_of_mem _ hx))
    refine ⟨i1, ?_⟩
    rw [i2, key.2, List.forall_mem_cons, and_assoc]
theorem lxM_zero {rs hs : List H3} (r : rokB rs = true) (n : rs ≠ []) (k : ∀ h ∈ hs, okB h = true) : 0 ≤ (lxM rs hs).1 ∧ ((lxM rs hs).1 = 0 ↔ ∀ h ∈ hs, lxN rs h ≤ 0) := by
  obtain ⟨a, b⟩ := lxF_zero r n hs (0, 1) okR_01 (Int.le_refl _) k
  refine ⟨a, ?_⟩
  have b' : (lxM rs hs).1 = 0 ↔ ((0 : Int) = 0 ∧ ∀ h ∈ hs, lxN rs h ≤ 0) := b
  rw [b']
  simp
/-- an edge cuts nothing off exactly if no point of the region lies beyond it -/
theorem lx_le {rs : List H3} {h : H3} (r : rokB rs = true) (n : rs ≠ []) (k : okB h = true) : lxN rs h ≤ 0 ↔ ∀ X Y W : Int, 0 < W → (∀ e ∈ rs, Geo.val e X Y W ≤ 0) → Geo.val h X Y W ≤ 0 := by
  obtain ⟨iA, iB, ic, nz, _⟩ := ok_in k
  obtain ⟨ok1, e1⟩ := lx_ok r n k
  obtain ⟨_, _, pB, _⟩ := lx_parts r n k
  have hl := lxl_in iA iB nz
  have dpos := ((okR_iff _ _).1 ok1).1
  obtain ⟨j, N, D, hj, ef, hD, hv, hin⟩ := far_facts r n iA iB
  have eA : lxA rs h = N := by unfold lxA; rw [ef]
  have eB : lxB rs h = D := by unfold lxB; rw [ef]
  rw [eA, eB] at e1
  rw [eB] at pB
  have hp : 0 < D * lenH h.a h.b := Int.mul_pos (by omega) (by omega)
  generalize D * lenH h.a h.b = p at *
  generalize lxN rs h = x at *
  generalize lxD rs h = d at *
  have mid : x ≤ 0 ↔ N - h.c * D ≤ 0 := by
    constructor
    · intro q
      have h1 := Int.mul_nonpos_of_nonpos_of_nonneg q (Int.le_of_lt hp)
      rw [e1] at h1
      refine posz_le (k := d) (by omega) ?_
      rw [Int.mul_comm]; exact h1
    · intro q
      have h1 := Int.mul_nonpos_of_nonpos_of_nonneg q (show 0 ≤ d by omega)
      rw [← e1] at h1
      refine posz_le hp ?_
      rw [Int.mul_comm]; exact h1
  rw [mid]
  constructor
  · intro q X Y W w kk
    have h1 := hin X Y W w kk
    refine posz_le (k := D) (by omega) ?_
    have h2 := Int.mul_le_mul_of_nonneg_right q (show 0 ≤ W by omega)
    unfold Geo.val
    have h3 : D * (h.a * X + h.b * Y - h.c * W) = ((h.a * X + h.b * Y) * D - N * W) + (N - h.c * D) * W := by grind
    rw [h3]
    omega
  · intro q
    obtain ⟨_, c1, ins, _⟩ := cnr_facts r n hj
    have h1 := q _ _ _ (show 0 < (crA rs j).c by omega) (fun e he => ins e (List.mem_append_right _ he))
    unfold Geo.val at h1
    refine posz_le (k := (crA rs j).c) (by omega) ?_
    have h2 := Int.mul_le_mul_of_nonneg_right h1 (show 0 ≤ D by omega)
    have h3 : (crA rs j).c * (N - h.c * D) = (h.a * (crA rs j).a + h.b * (crA rs j).b - h.c * (crA rs j).c) * D + (N * (crA rs j).c - (h.a * (crA rs j).a + h.b * (crA rs j).b) * D) := by grind
    rw [h3, hv]
    omega
section
variable {zs : List Int} {q bx cy lo hi : Int} {ps qs : List H3}
theorem rr_zero (rm : rmB zs q bx cy lo hi ps qs = true) : rrB zs q bx cy lo hi ps qs 0 = true ∧ rrL zs q bx cy lo hi ps qs 0 = qs ∧ rrN zs q bx cy lo hi ps qs 0 = 0 ∧ rrS zs q bx cy lo hi ps qs 0 = false := by
  have e : rrG zs q bx cy lo hi ps qs 0 = some (qs, 0, false) := by rw [rr_go rfl rm]; rfl
  obtain ⟨e1, e2, e3, e4⟩ := rr_some e
  exact ⟨e4, e1, e2, e3⟩
theorem rr_one (h : rrB zs q bx cy lo hi ps qs 1 = true) : kpB zs q bx cy lo hi ps qs qs = true ∧ ((kpL zs q bx cy lo hi ps qs qs = qs ∧ rrL zs q bx cy lo hi ps qs 1 = qs ∧ rrS zs q bx cy lo hi ps qs 1 = true) ∨ (kpL zs q bx cy lo hi ps qs qs ≠ qs ∧ rrL zs q bx cy lo hi ps qs 1 = kpL zs q bx cy lo hi ps qs qs ∧ rrS zs q bx cy lo hi ps qs 1 = false)) := by
  obtain ⟨_, _, e⟩ := rrG_some h
  have e' : rrF zs q bx cy lo hi ps qs 1 qs 0 = some (rrL zs q bx cy lo hi ps qs 1, rrN zs q bx cy lo hi ps qs 1, rrS zs q bx cy lo hi ps qs 1) := e
  by_cases b : kpB zs q bx cy lo hi ps qs qs = true
  · by_cases c : kpL zs q bx cy lo hi ps qs qs = qs
    · rw [rrF_stop b c] at e'
      simp only [Option.some.injEq, Prod.mk.injEq] at e'
      exact ⟨b, .inl ⟨c, e'.1.symm, e'.2.2.symm⟩⟩
    · rw [rrF_next b c] at e'
      unfold rrF at e'
      simp only [Option.some.injEq, Prod.mk.injEq] at e'
      exact ⟨b, .inr ⟨c, e'.1.symm, e'.2.2.symm⟩⟩
  · rw [rrF_no (by simpa using b)] at e'
    cases e'
theorem rounds_facts (h1 : rrB zs q bx cy lo hi ps qs 1 = true) (h2 : rrB zs q bx cy lo hi ps qs 2 = true) :
    wiB (rrL zs q bx cy lo hi ps qs 1) qs = true ∧ wiB (rrL zs q bx cy lo hi ps qs 2) (rrL zs q bx cy lo hi ps qs 1) = true ∧ rrN zs q bx cy lo hi ps qs 2 ≤ 2 ∧ (rrS zs q bx cy lo hi ps qs 1 = true → rrS zs q bx cy lo hi ps qs 2 = true) ∧
    (kgB zs q bx cy lo hi ps qs = true → wiB (kgL zs q bx cy lo hi ps qs) (rrL zs q bx cy lo hi ps qs 2) = true ∧ (rrS zs q bx cy lo hi ps qs 2 = true → sameB (kgL zs q bx cy lo hi ps qs) (rrL zs q bx cy lo hi ps qs 2) = true)) := by
  obtain ⟨rm, _, e1⟩ := rrG_some h1
  obtain ⟨_, _, e2⟩ := rrG_some h2
  obtain ⟨rq, _⟩ := rm_qs rm
  obtain ⟨r1, s1, _⟩ := rrF_facts _ qs 0 rq _ _ _ e1
  obtain ⟨r2, _, _, n2, _⟩ := rrF_facts _ qs 0 rq _ _ _ e2
  have a1 := (rrF_add (zs := zs) (q := q) (bx := bx) (cy := cy) (lo := lo) (hi := hi) (ps := ps) (qs := qs) 1 1 qs 0).2 _ _ _ e1
  rw [show (1 + 1 : Nat) = (2 : Int).toNat from rfl, e2] at a1
  have s2 : Sub (rrL zs q bx cy lo hi ps qs 2) (rrL zs q bx cy lo hi ps qs 1) ∧ (rrS zs q bx cy lo hi ps qs 1 = true → rrS zs q bx cy lo hi ps qs 2 = true) := by
    by_cases c : rrS zs q bx cy lo hi ps qs 1 = true
    · rw [if_pos c] at a1
      simp only [Option.some.injEq, Prod.mk.injEq] at a1
      rw [a1.1, a1.2.2]
      exact ⟨Sub.refl _, fun k => k⟩
    · rw [if_neg c] at a1
      obtain ⟨_, s, _⟩ := rrF_facts _ _ _ r1 _ _ _ a1.symm
      exact ⟨s, fun k => absurd k c⟩
  refine ⟨s1.wi r1 rq, s2.1.wi r2 r1, ?_, s2.2, fun hk => ?_⟩
  · have : (2 : Int).toNat = 2 := rfl
    omega
  · obtain ⟨k1, _⟩ := kg_yes hk
    obtain ⟨_, rk, _⟩ := kg_facts hk
    unfold kgB at hk
    rw [Bool.and_eq_true] at hk
    obtain ⟨_, _, e12⟩ := rrG_some hk.1
    have a2 := (rrF_add (zs := zs) (q := q) (bx := bx) (cy := cy) (lo := lo) (hi := hi) (ps := ps) (qs := qs) 2 10 qs 0).2 _ _ _ e2
    rw [show (2 + 10 : Nat) = (12 : Int).toNat from rfl, e12] at a2
    rw [k1] at rk ⊢
    by_cases c : rrS zs q bx cy lo hi ps qs 2 = true
    · rw [if_pos c] at a2
      simp only [Option.some.injEq, Prod.mk.injEq] at a2
      rw [a2.1]
      exact ⟨(Sub.refl _).wi r2 r2, fun _ => by unfold sameB; simp⟩
    · rw [if_neg c] at a2
      obtain ⟨_, s, _⟩ := rrF_facts _ _ _ r2 _ _ _ a2.symm
      exact ⟨s.wi rk r2, fun k => absurd k c⟩
/-- the loss is 0 exactly if the round changes nothing -/
theorem loss_facts (h1 : rrB zs q bx cy lo hi ps qs 1 = true) (hl : loB zs q bx cy lo hi ps qs 0 = true) : 0 ≤ (loP zs q bx cy lo hi ps qs 0).1 ∧ decide ((loP zs q bx cy lo hi ps qs 0).1 = 0) = sameB qs (rrL zs q bx cy lo hi ps qs 1) := by
  obtain ⟨b, cs⟩ := rr_one h1
  obtain ⟨rm, _⟩ := rrG_some h1
  obtain ⟨_, e0, _⟩ := rr_zero rm
  obtain ⟨rq, nq, _⟩ := rm_qs rm
  obtain ⟨_, rK, sK, _⟩ := kp_facts b
  have eP : loP zs q bx cy lo hi ps qs 0 = lxM qs (kpL zs q bx cy lo hi ps qs qs) := by unfold loP; rw [if_pos hl, e0]
  rw [eP]
  obtain ⟨z1, z2⟩ := lxM_zero rq nq (fun h hh => rok_all rK h hh)
  refine ⟨z1, ?_⟩
  have nK : kpL zs q bx cy lo hi ps qs qs ≠ [] := by
    intro e
    unfold loB at hl
    rw [e0, e] at hl
    simp at hl
  have key : (lxM qs (kpL zs q bx cy lo hi ps qs qs)).1 = 0 ↔ kpL zs q bx cy lo hi ps qs qs = qs := by
    rw [z2]
    constructor
    · intro k
      refine sub_same rK rq sK (.inr ⟨nK, fun X Y W w kk g hg => ?_⟩)
      exact (lx_le rq nq (rok_all rK g hg)).1 (k g hg) X Y W w kk
    · intro e h hh
      rw [lx_le rq nq (rok_all rK h hh)]
      intro X Y W w kk
      rw [e] at hh
      exact kk h hh
  unfold sameB
  rcases cs with ⟨c, eL, _⟩ | ⟨c, eL, _⟩
  · rw [eL, decide_eq_true (key.2 c)]
    simp
  · rw [eL, decide_eq_false (fun k => c (key.1 k)), decide_eq_false (fun k => c k.symm)]
theorem ck_far : ckB zs q bx cy lo hi ps qs 2000 0 1 = false := by
  unfold ckB
  rw [has_sno]
  · simp
  · rfl
end
end Go.Proofs.YtdjjncofahnaaaaGreat
