/- Meets of drawn areas, and what a column of whole spots says (no calls). -/
import Derived.Test.YtfndkapjclhflaaAh
import Derived.Test.YtfndkapjclhflaaMh
import Derived.Test.YtfndkapjclhflaaGv
namespace Go.Proofs.Ytfndkapjclhflaa
open Go.RowKit
open Geo (H3)

theorem colS_iff {x y : Int} {s : Int × Int} {h : H3} : ((colS x s h).1 ≤ y ∧ y ≤ (colS x s h).2) ↔ (s.1 ≤ y ∧ y ≤ s.2) ∧ Geo.val h x y 1 ≤ 0 := by
  obtain ⟨lo, hi⟩ := s
  unfold Geo.val
  by_cases b1 : 0 < h.b
  · rw [col_pos b1]
    simp only
    have := Int.le_ediv_iff_mul_le (a := y) (b := h.c - h.a * x) b1
    have e : y * h.b = h.b * y := Int.mul_comm _ _
    rw [e] at this
    generalize h.b * y = t at *
    generalize h.a * x = z at *
    generalize (h.c - z) / h.b = d at *
    omega
  · by_cases b2 : h.b < 0
    · rw [col_neg b2]
      simp only
      have := Int.le_ediv_iff_mul_le (a := -y) (b := h.c - h.a * x) (show 0 < -h.b by omega)
      have e : -y * -h.b = h.b * y := by grind
      rw [e] at this
      generalize h.b * y = t at *
      generalize h.a * x = z at *
      generalize (h.c - z) / -h.b = d at *
      omega
    · have b0 : h.b = 0 := by omega
      rw [b0, Int.zero_mul]
      by_cases k : h.c - h.a * x < 0
      · rw [col_out b0 k]
        simp only
        omega
      · rw [col_in b0 k]
        simp only
        omega
theorem colG_iff {x y : Int} (hs : List H3) : ∀ s : Int × Int, ((hs.foldl (colS x) s).1 ≤ y ∧ y ≤ (hs.foldl (colS x) s).2) ↔ (s.1 ≤ y ∧ y ≤ s.2) ∧ ∀ h ∈ hs, Geo.val h x y 1 ≤ 0 := by
  induction hs with
  | nil => intro s; simp
  | cons h t ih =>
    intro s
    rw [List.foldl_cons, ih, colS_iff, List.forall_mem_cons, and_assoc]
/-- the whole spots of a column are those that all half planes hold -/
theorem colF_iff {x y : Int} (hs : List H3) : ((colF x hs).1 ≤ y ∧ y ≤ (colF x hs).2) ↔ (-1000 ≤ y ∧ y ≤ 1000) ∧ ∀ h ∈ hs, Geo.val h x y 1 ≤ 0 := colG_iff hs (-1000, 1000)
def widF (hs : List H3) (x : Int) : Int := max ((colF x hs).2 - (colF x hs).1 + 1) 0
theorem cntF_wid (hs : List H3) (k : Nat) : cntF hs (k + 1) = cntF hs k + widF hs (-1000 + k) := rfl
theorem wid_le {hs ks : List H3} {x : Int} (h : ∀ y : Int, -1000 ≤ y → y ≤ 1000 → (∀ g ∈ hs, Geo.val g x y 1 ≤ 0) → ∀ g ∈ ks, Geo.val g x y 1 ≤ 0) : widF hs x ≤ widF ks x := by
  unfold widF
  have a := colF_iff (x := x) (y := (colF x hs).1) hs
  have b := colF_iff (x := x) (y := (colF x hs).2) hs
  have c := colF_iff (x := x) (y := (colF x hs).1) ks
  have d := colF_iff (x := x) (y := (colF x hs).2) ks
  by_cases k : (colF x hs).1 ≤ (colF x hs).2
  · obtain ⟨a1, a2⟩ := a.1 ⟨by omega, k⟩
    obtain ⟨b1, b2⟩ := b.1 ⟨k, by omega⟩
    have c' := c.2 ⟨a1, h _ a1.1 a1.2 a2⟩
    have d' := d.2 ⟨b1, h _ b1.1 b1.2 b2⟩
    omega
  · omega
theorem cnt_le {hs ks : List H3} (h : ∀ x y : Int, -1000 ≤ x → x ≤ 1000 → -1000 ≤ y → y ≤ 1000 → (∀ g ∈ hs, Geo.val g x y 1 ≤ 0) → ∀ g ∈ ks, Geo.val g x y 1 ≤ 0) (k : Nat) (hk : k ≤ 2001) : cntF hs k ≤ cntF ks k := by
  induction k with
  | zero => exact Int.le_refl _
  | succ k ih =>
    rw [cntF_wid, cntF_wid]
    have a := ih (by omega)
    have b := wid_le (hs := hs) (ks := ks) (x := -1000 + k) (fun y h1 h2 => h _ y (by omega) (by omega) h1 h2)
    omega
theorem who_le {ps qs : List H3} (q : rokB qs = true) (k : ps ≠ [] → qs ≠ [] ∧ ∀ x y : Int, (∀ g ∈ ps, Geo.val g x y 1 ≤ 0) → ∀ g ∈ qs, Geo.val g x y 1 ≤ 0) : whoN ps ≤ whoN qs := by
  have pos : 0 ≤ whoN qs := by
    unfold whoN
    split
    · exact (cntF_bnd (rok_all q) 2001 (by omega)).1
    · omega
  by_cases h : rokB ps = true ∧ ps ≠ []
  · obtain ⟨k1, k2⟩ := k h.2
    unfold whoN
    rw [if_pos h, if_pos ⟨q, k1⟩]
    exact cnt_le (fun x y _ _ _ _ => k2 x y) 2001 (by omega)
  · have e : whoN ps = 0 := by unfold whoN; rw [if_neg h]
    omega
/-- fewer half planes: a region is there all the more -/
theorem reg_mono {hs ks : List H3} (hk : ks.all okB = true) (hh : hs.all okB = true) (s : ∀ g ∈ hs, g ∈ ks) (n : regL ks ≠ []) : regL hs ≠ [] := by
  intro e
  rcases regL_inv hh with ⟨p, _⟩ | ⟨_, f⟩
  · have := p.1
    rw [e] at this
    simp at this
  · refine n (reg_eq hk (.inr ⟨rfl, f.mono fun g hg => ?_⟩))
    rcases List.mem_append.1 hg with m | m
    · exact List.mem_append_right _ m
    · exact List.mem_append_left _ (s g m)
theorem all_app {hs ks : List H3} (a : hs.all okB = true) (b : ks.all okB = true) : (hs ++ ks).all okB = true := by rw [List.all_append, a, b]; rfl
theorem within_rok {ps qs : List H3} (r : rokB ps = true) (q : rokB qs = true) (nq : qs ≠ []) (k : ps ≠ [] → ∀ X Y W : Int, 0 < W → (∀ e ∈ ps, Geo.val e X Y W ≤ 0) → ∀ g ∈ qs, Geo.val g X Y W ≤ 0) : wiB ps qs = true := by
  have e := rok_reg q nq
  have := within_of r (rok_allB q) (by rw [e]; exact rok_len q) (fun n => ⟨by rw [e]; exact nq, k n⟩)
  rwa [e] at this
/-- a region within another is its own meet with it -/
theorem meet_same {ps qs : List H3} (r : rokB ps = true) (n : ps ≠ []) (q : rokB qs = true) (h : wiB ps qs = true) : regL (ps ++ qs) = ps := by
  refine reg_eq (all_app (rok_allB r) (rok_allB q)) (.inl ⟨(rok_poly r n).1, fun x hx => List.mem_append_left _ (List.mem_append_left _ hx), fun p hp g hg => ?_⟩)
  obtain ⟨i, hi, rfl⟩ := cyc_ix hp
  obtain ⟨o, c1, ins, _, _, kk, hkk, _, e2⟩ := cnr_facts r n hi
  rw [e2]
  refine Int.mul_nonpos_of_nonneg_of_nonpos (by omega) ?_
  rcases List.mem_append.1 hg with m | m
  · rcases List.mem_append.1 m with m | m
    · exact ins g (List.mem_append_right _ m)
    · unfold wiB at h
      rw [r, q, decide_eq_false n] at h
      simp only [Bool.and_self, Bool.true_and, Bool.false_or, Bool.and_eq_true] at h
      have hc : crA ps i ∈ corR ps := by
        unfold corR
        rw [if_pos r]
        exact List.mem_of_getElem? (corL_get ps hi)
      have := List.all_eq_true.1 h.2 _ hc
      unfold ahB at this
      have := List.all_eq_true.1 this g m
      rw [decide_eq_true_eq, side_valD] at this
      exact this
  · exact ins g (List.mem_append_left _ m)
theorem meet_facts {ps qs : List H3} {x y u v x' y' u' v' : Int} (F : AreaF ps x y u v) (G : AreaF qs x' y' u' v') :
    metB ps qs = true ∧ metB qs ps = true ∧ metL qs ps = metL ps qs ∧ rokB (metL ps qs) = true ∧ wiB (metL ps qs) ps = true ∧ wiB (metL ps qs) qs = true ∧ wiB ps qs = sameB (metL ps qs) ps ∧
    (∀ X Y : Int, okS X Y 1 = true → metL ps qs ≠ [] → hasB (metL ps qs) X Y 1 = (hasB ps X Y 1 && hasB qs X Y 1)) ∧
    ∀ h ∈ ps, cutB qs h = true ∧ rokB (cutA qs h) = true ∧ wiB (metL ps qs) (cutA qs h) = true ∧ wiB (cutA qs h) qs = true ∧ whoN (metL ps qs) ≤ whoN qs := by
  have r := F.1
  have n := F.2.1
  have l := F.2.2.1
  have r' := G.1
  have n' := G.2.1
  have l' := G.2.2.1
  have ok := all_app (rok_allB r) (rok_allB r')
  have b1 : metB ps qs = true := by unfold metB; rw [r, r', decide_eq_true (by omega)]; rfl
  have b2 : metB qs ps = true := by unfold metB; rw [r, r', decide_eq_true (by omega)]; rfl
  have e1 : metL ps qs = regL (ps ++ qs) := by unfold metL; rw [if_pos ⟨b1, n, n'⟩]
  have e2 : metL qs ps = regL (ps ++ qs) := by unfold metL; rw [if_pos ⟨b2, n', n⟩]; exact regL_swap ok
  have ln : (regL (ps ++ qs)).length ≤ 40 := by have := reg_more (ks := qs) r n; omega
  have rm := rok_regL ok ln
  have imp : regL (ps ++ qs) ≠ [] → ∀ X Y W : Int, 0 < W → (∀ e ∈ regL (ps ++ qs), Geo.val e X Y W ≤ 0) → ∀ g ∈ ps ++ qs, Geo.val g X Y W ≤ 0 := fun nm X Y W w k g hg => reg_imp ok nm w k g (List.mem_append_right _ hg)
  have w1 : wiB (regL (ps ++ qs)) ps = true := within_rok rm r n (fun nm X Y W w k g hg => imp nm X Y W w k g (List.mem_append_left _ hg))
  have w2 : wiB (regL (ps ++ qs)) qs = true := within_rok rm r' n' (fun nm X Y W w k g hg => imp nm X Y W w k g (List.mem_append_right _ hg))
  rw [e1, e2]
  refine ⟨b1, b2, rfl, rm, w1, w2, ?_, ?_, ?_⟩
  · unfold sameB
    by_cases k : wiB ps qs = true
    · rw [k, decide_eq_true (meet_same r n r' k)]
    · have k' : wiB ps qs = false := by simpa using k
      rw [k', decide_eq_false]
      intro e
      rw [e] at w2
      rw [w2] at k'
      cases k'
  · intro X Y o nm
    rw [Bool.eq_iff_iff, Bool.and_eq_true, has_reg ok ln nm o, has_iff r n o, has_iff r' n' o]
    constructor
    · intro k
      exact ⟨fun e he => k e (List.mem_append_left _ he), fun e he => k e (List.mem_append_right _ he)⟩
    · rintro ⟨k1, k2⟩ g hg
      rcases List.mem_append.1 hg with m | m
      · exact k1 g m
      · exact k2 g m
  · intro h hh
    have okh := rok_all r h hh
    have cb : cutB qs h = true := by unfold cutB; rw [r', okh, decide_eq_true (by omega)]; rfl
    have ce : cutA qs h = regL (qs ++ [h]) := by unfold cutA; rw [if_pos ⟨cb, n'⟩]
    have okc : (qs ++ [h]).all okB = true := all_app (rok_allB r') (by simp [okh])
    have lc : (regL (qs ++ [h])).length ≤ 40 := by have := reg_more (ks := [h]) r' n'; simp at this; omega
    have rc := rok_regL okc lc
    have sub : ∀ g ∈ qs ++ [h], g ∈ ps ++ qs := by
      intro g hg
      rcases List.mem_append.1 hg with m | m
      · exact List.mem_append_right _ m
      · rw [List.mem_singleton.1 m]; exact List.mem_append_left _ hh
    rw [ce]
    refine ⟨cb, rc, within_of rm okc lc (fun nm => ⟨reg_mono ok okc sub nm, fun X Y W w k g hg => imp nm X Y W w k g (sub g hg)⟩), within_rok rc r' n' (fun nm X Y W w k g hg => reg_imp okc nm w k g (List.mem_append_right _ (List.mem_append_left _ hg))), ?_⟩
    exact who_le r' (fun nm => ⟨n', fun X Y k g hg => imp nm X Y 1 (by omega) k g (List.mem_append_right _ hg)⟩)
end Go.Proofs.Ytfndkapjclhflaa
