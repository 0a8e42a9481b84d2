/- A region's points as integer inequalities: what regions made of half planes contain, and when one lies within another (no calls). -/
import Derived.Test.YtibkmhmeoelpdaaGreatWm
import Derived.Test.YtibkmhmeoelpdaaGreatEs
import Derived.Test.YtibkmhmeoelpdaaGreatCf
import Derived.Test.YtibkmhmeoelpdaaGreatMf
import Derived.Test.YtibkmhmeoelpdaaGreatGv
import Derived.Test.YtibkmhmeoelpdaaGreatVc
import Derived.Test.YtibkmhmeoelpdaaGreatMh
namespace Go.Proofs.YtibkmhmeoelpdaaGreat
open Go.RowKit
open Geo (H3)

/-- the edges of a list of valid half planes give themselves again -/
theorem regL_idem {hs : List H3} (h : hs.all okB = true) (n : regL hs ≠ []) : regL (regL hs) = regL hs := by
  have hE : (regL hs).all okB = true := List.all_eq_true.2 (regL_ok h)
  rcases regL_inv h with ⟨p, s, d⟩ | ⟨e, _⟩
  · rw [← mod_reg hE]
    refine mod_of hE (.inl ⟨p, fun x hx => List.mem_append_left _ hx, fun q hq g hg => d q hq g ?_⟩)
    rcases List.mem_append.1 hg with k | k
    · exact s g k
    · exact List.mem_append_left _ k
  · exact absurd e n
/-- such a region is valid -/
theorem rok_regL {hs : List H3} (h : hs.all okB = true) (l : (regL hs).length ≤ 40) : rokB (regL hs) = true := by
  by_cases n : regL hs = []
  · rw [n]; rfl
  · have hE : (regL hs).all okB = true := List.all_eq_true.2 (regL_ok h)
    have o : okF (regL hs) = true := by
      unfold okF
      rw [regL_idem h n, hE, decide_eq_true l]
      rfl
    unfold rokB regE sameB
    rw [o, if_pos rfl, regL_idem h n]
    simp
theorem side_val {a b c x y : Int} : sideV a b c x y 1 ≤ 0 ↔ Geo.val ⟨a, b, c⟩ x y 1 ≤ 0 := by
  unfold sideV Geo.val
  simp only
  split
  · omega
  · split <;> omega
theorem side_lt {a b c x y : Int} : sideV a b c x y 1 = -1 ↔ Geo.val ⟨a, b, c⟩ x y 1 < 0 := by
  unfold sideV Geo.val
  simp only
  split
  · omega
  · split <;> omega
theorem whole_ok {x y : Int} (hx : -1000 ≤ x ∧ x ≤ 1000) (hy : -1000 ≤ y ∧ y ≤ 1000) : okS x y 1 = true := by
  rw [okS_yes (by omega) (by omega) (by omega) (by omega) (by omega) (by omega)]
  unfold gS
  simp
theorem hold_val {h : H3} {x y : Int} (k : okB h = true) (o : okS x y 1 = true) : holdH h.a h.b h.c x y 1 = decide (Geo.val h x y 1 ≤ 0) := by
  unfold holdH
  rw [show okH h.a h.b h.c = true from k, o]
  simp only [Bool.true_and, decide_eq_decide]
  exact side_val
/-- a spot of the region lies in all half planes -/
theorem has_all {hs : List H3} (h : hs.all okB = true) {x y : Int} (o : okS x y 1 = true) (k : hasB (regL hs) x y 1 = true) : ∀ g ∈ hs, Geo.val g x y 1 ≤ 0 := by
  unfold hasB at k
  simp only [Bool.and_eq_true, decide_eq_true_eq] at k
  obtain ⟨⟨_, n⟩, a⟩ := k
  rw [List.all_eq_true] at a
  intro g hg
  rcases regL_inv h with ⟨p, s, d⟩ | ⟨e, _⟩
  · refine Geo.inside_of p (okB_nz (List.all_eq_true.1 h g hg)) (fun q hq => d q hq g (List.mem_append_right _ hg)) (by omega) ?_
    intro e he
    have := a e he
    rw [hold_val (regL_ok h e he) o, decide_eq_true_eq] at this
    exact this
  · exact absurd e n
theorem frame_in {x y : Int} (hx : -1000 ≤ x ∧ x ≤ 1000) (hy : -1000 ≤ y ∧ y ≤ 1000) : ∀ g ∈ Geo.frame, Geo.val g x y 1 ≤ 0 := by
  intro g hg
  unfold Geo.frame at hg
  simp only [List.mem_cons, List.not_mem_nil, or_false] at hg
  rcases hg with rfl | rfl | rfl | rfl <;> unfold Geo.val <;> simp only <;> omega
/-- a spot of the frame that lies in all half planes lies in the region, if there is one -/
theorem all_has {hs : List H3} (h : hs.all okB = true) (l : (regL hs).length ≤ 40) (n : regL hs ≠ []) {x y : Int} (hx : -1000 ≤ x ∧ x ≤ 1000) (hy : -1000 ≤ y ∧ y ≤ 1000) (a : ∀ g ∈ hs, Geo.val g x y 1 ≤ 0) : hasB (regL hs) x y 1 = true := by
  unfold hasB
  rw [rok_regL h l, decide_eq_true n, Bool.true_and, Bool.true_and, List.all_eq_true]
  intro e he
  rw [hold_val (regL_ok h e he) (whole_ok hx hy), decide_eq_true_eq]
  rcases regL_inv h with ⟨_, s, _⟩ | ⟨e0, _⟩
  · rcases List.mem_append.1 (s e he) with k | k
    · exact frame_in hx hy e k
    · exact a e k
  · exact absurd e0 n
/-- a spot well within all half planes: there is a region -/
theorem strict_some {hs : List H3} (h : hs.all okB = true) {x y : Int} (hx : -999 ≤ x ∧ x ≤ 999) (hy : -999 ≤ y ∧ y ≤ 999) (a : ∀ g ∈ hs, Geo.val g x y 1 < 0) : regL hs ≠ [] := by
  intro e
  rcases regL_inv h with ⟨p, _, _⟩ | ⟨_, f, nf, hf⟩
  · have := p.1
    rw [e] at this
    simp at this
  · have hok : ∀ g ∈ Geo.frame ++ hs, okB g = true := by
      intro g hg
      rcases List.mem_append.1 hg with k | k
      · exact frame_ok g k
      · exact List.all_eq_true.1 h g k
    have hs' : ∀ g ∈ Geo.frame ++ hs, Geo.val g x y 1 < 0 := by
      intro g hg
      rcases List.mem_append.1 hg with k | k
      · unfold Geo.frame at k
        simp only [List.mem_cons, List.not_mem_nil, or_false] at k
        rcases k with rfl | rfl | rfl | rfl <;> unfold Geo.val <;> simp only <;> omega
      · exact a g k
    have near : ∀ i j : Int, -1 ≤ i → i ≤ 1 → -1 ≤ j → j ≤ 1 → Geo.val f (100001 * x + i) (100001 * y + j) 100001 = 0 := by
      intro i j i1 i2 j1 j2
      refine hf _ _ _ (by omega) (fun g hg => ?_)
      have k := hs' g hg
      obtain ⟨ga, gb, _, _⟩ := ok_in (hok g hg)
      unfold Geo.val at *
      unfold In5 at ga gb
      have e1 : g.a * (100001 * x + i) + g.b * (100001 * y + j) - g.c * 100001 = 100001 * (g.a * x + g.b * y - g.c * 1) + g.a * i + g.b * j := by grind
      rw [e1]
      have m1 : g.a * i ≤ 50000 := by
        rcases (by omega : i = -1 ∨ i = 0 ∨ i = 1) with rfl | rfl | rfl <;> omega
      have m2 : g.b * j ≤ 50000 := by
        rcases (by omega : j = -1 ∨ j = 0 ∨ j = 1) with rfl | rfl | rfl <;> omega
      generalize g.a * x + g.b * y - g.c * 1 = v at *
      omega
    have n0 := near 0 0 (by omega) (by omega) (by omega) (by omega)
    have n1 := near 1 0 (by omega) (by omega) (by omega) (by omega)
    have n2 := near 0 1 (by omega) (by omega) (by omega) (by omega)
    unfold Geo.val at n0 n1 n2
    unfold Geo.nz at nf
    have a0 : f.a = 0 := by grind
    have b0 : f.b = 0 := by grind
    omega
theorem reg_eq {hs E : List H3} (hok : hs.all okB = true) (i : Geo.Inv E (hs ++ Geo.frame)) : regL hs = E := by
  rw [← mod_reg hok]
  exact mod_of hok i
theorem all_okF {hs : List H3} (h : hs.all okB = true) : ∀ g ∈ Geo.frame ++ hs, okB g = true := by
  intro g hg
  rcases List.mem_append.1 hg with k | k
  · exact frame_ok g k
  · exact List.all_eq_true.1 h g k
/-- the edges of a region say all that its half planes say -/
theorem reg_imp {hs : List H3} (h : hs.all okB = true) (n : regL hs ≠ []) {X Y W : Int} (w : 0 < W) (k : ∀ e ∈ regL hs, Geo.val e X Y W ≤ 0) : ∀ g ∈ Geo.frame ++ hs, Geo.val g X Y W ≤ 0 := by
  intro g hg
  obtain ⟨P, _, d⟩ := inv_poly (regL_inv h) n
  exact Geo.inside_of P (okB_nz (all_okF h g hg)) (fun q hq => d q hq g hg) w k
theorem reg_sub {hs : List H3} (h : hs.all okB = true) : ∀ e ∈ regL hs, e ∈ Geo.frame ++ hs := by
  rcases regL_inv h with ⟨_, s, _⟩ | ⟨e, _⟩
  · exact s
  · rw [e]; intro x hx; simp at hx
theorem rok_imp {ps : List H3} (r : rokB ps = true) (n : ps ≠ []) {X Y W : Int} (w : 0 < W) (k : ∀ e ∈ ps, Geo.val e X Y W ≤ 0) : ∀ g ∈ Geo.frame, Geo.val g X Y W ≤ 0 := by
  have e := rok_reg r n
  intro g hg
  refine reg_imp (rok_allB r) (by rw [e]; exact n) w (by rw [e]; exact k) g (List.mem_append_left _ hg)
theorem side_valD {a b c x y d : Int} : sideV a b c x y d ≤ 0 ↔ Geo.val ⟨a, b, c⟩ x y d ≤ 0 := by
  unfold sideV Geo.val
  simp only
  split
  · omega
  · split <;> omega
theorem side_zeroD {a b c x y d : Int} : sideV a b c x y d = 0 ↔ Geo.val ⟨a, b, c⟩ x y d = 0 := by
  unfold sideV Geo.val
  simp only
  split
  · omega
  · split <;> omega
theorem hold_valD {h : H3} {x y d : Int} (k : okB h = true) (o : okS x y d = true) : holdH h.a h.b h.c x y d = decide (Geo.val h x y d ≤ 0) := by
  unfold holdH
  rw [show okH h.a h.b h.c = true from k, o]
  simp only [Bool.true_and, decide_eq_decide]
  exact side_valD
theorem has_iff {ps : List H3} (r : rokB ps = true) (n : ps ≠ []) {x y d : Int} (o : okS x y d = true) : hasB ps x y d = true ↔ ∀ e ∈ ps, Geo.val e x y d ≤ 0 := by
  unfold hasB
  rw [r, decide_eq_true n, Bool.true_and, Bool.true_and, List.all_eq_true]
  constructor
  · intro k e he
    have := k e he
    rwa [hold_valD (rok_all r e he) o, decide_eq_true_eq] at this
  · intro k e he
    rw [hold_valD (rok_all r e he) o, decide_eq_true_eq]
    exact k e he
theorem ok_pos {x y d : Int} (o : okS x y d = true) : 1 ≤ d := ((okS_iff _ _ _).1 o).1
/-- a region out of half planes holds a spot exactly if all half planes and the frame do -/
theorem has_reg {hs : List H3} (h : hs.all okB = true) (l : (regL hs).length ≤ 40) (n : regL hs ≠ []) {x y d : Int} (o : okS x y d = true) : hasB (regL hs) x y d = true ↔ ∀ g ∈ hs, Geo.val g x y d ≤ 0 := by
  rw [has_iff (rok_regL h l) n o]
  have od := (okS_iff _ _ _).1 o
  constructor
  · intro k g hg
    exact reg_imp h n (by omega) k g (List.mem_append_right _ hg)
  · intro k e he
    rcases List.mem_append.1 (reg_sub h e he) with m | m
    · unfold Geo.frame at m
      simp only [List.mem_cons, List.not_mem_nil, or_false] at m
      rcases m with rfl | rfl | rfl | rfl <;> unfold Geo.val <;> simp only <;> omega
    · exact k e m

/-- a number times a positive one -/
theorem scale_le {g v : Int} (hg : 1 ≤ g) : v * g ≤ 0 ↔ v ≤ 0 := by
  constructor
  · intro h
    rcases Int.lt_or_le 0 v with k | k
    · have := Int.mul_pos k (show 0 < g by omega); omega
    · exact k
  · intro h
    have := Int.mul_le_mul_of_nonneg_right h (show 0 ≤ g by omega)
    omega
theorem scale_lt {g v : Int} (hg : 1 ≤ g) : v * g < 0 ↔ v < 0 := by
  constructor
  · intro h
    rcases Int.lt_or_le v 0 with k | k
    · exact k
    · have := Int.mul_nonneg k (show 0 ≤ g by omega); omega
  · intro h
    have := Int.mul_neg_of_neg_of_pos h (show 0 < g by omega)
    omega

theorem okS64' {x y d : Int} (h : okS x y d = true) : In64 ⟨x, y, d⟩ := by
  by_cases c : d < 1 ∨ 5000000000 < d ∨ x < -(1000 * d) ∨ 1000 * d < x ∨ y < -(1000 * d) ∨ 1000 * d < y
  · rw [okS_no c] at h; cases h
  · refine ⟨⟨?_, ?_⟩, ⟨?_, ?_⟩, ⟨?_, ?_⟩⟩ <;> simp only <;> omega
theorem red_parts {a b c : Int} (h : hasH a b c = true) : ∃ g : Int, 1 ≤ g ∧ ∀ X Y W : Int, a * X + b * Y - c * W = Geo.val (redH a b c) X Y W * g := by
  have h0 : a ≠ 0 ∨ b ≠ 0 := by
    unfold hasH at h
    simp only [Bool.and_eq_true, decide_eq_true_eq] at h
    exact h.1
  have hg := gS_posH (c := c) h0
  have ea : a = a.tdiv (gS a b c) * (gS a b c : Int) := (Int.tdiv_mul_cancel (gS_dvd_x a b c)).symm
  have eb : b = b.tdiv (gS a b c) * (gS a b c : Int) := (Int.tdiv_mul_cancel (gS_dvd_y a b c)).symm
  have ec : c = c.tdiv (gS a b c) * (gS a b c : Int) := (Int.tdiv_mul_cancel (gS_dvd_d a b c)).symm
  refine ⟨(gS a b c : Int), by omega, fun X Y W => ?_⟩
  unfold redH Geo.val
  rw [h, kp_t, kp_t, kp_t]
  simp only
  generalize a.tdiv (gS a b c) = A at *
  generalize b.tdiv (gS a b c) = B at *
  generalize c.tdiv (gS a b c) = C at *
  generalize (gS a b c : Int) = g at *
  subst ea eb ec
  grind
theorem ok_lenF {hs : List H3} (h : okF hs = true) : hs.all okB = true ∧ (regL hs).length ≤ 40 ∧ regE hs = regL hs := by
  have e : regE hs = regL hs := by unfold regE; rw [if_pos h]
  unfold okF at h
  simp only [Bool.and_eq_true, decide_eq_true_eq] at h
  exact ⟨h.1.2, h.2, e⟩
/-- a moved region that is not refused: its half planes are all there, and it is valid -/
theorem mv_facts {B : H3 → Bool} {M : H3 → H3} {fu ps : List H3} (n : ps ≠ []) (h : mvB B M fu ps = true) : ps.all B = true ∧ mvL B M fu ps = regL (fu ++ ps.map M) ∧ (fu ++ ps.map M).all okB = true ∧ (regL (fu ++ ps.map M)).length ≤ 40 := by
  have h' := h
  unfold mvB at h
  simp only [Bool.or_eq_true, Bool.and_eq_true, decide_eq_true_eq] at h
  obtain ⟨a, o⟩ := h.resolve_left n
  obtain ⟨o1, o2, _⟩ := ok_lenF o
  refine ⟨a, ?_, o1, o2⟩
  unfold mvL
  rw [if_pos ⟨h', n⟩]
theorem has_void {x y d : Int} : hasB [] x y d = false := has_nil rfl rfl x y d
/-- the spots of a region lie in the region of half planes that hold them all -/
theorem within_of {ps hs : List H3} (r : rokB ps = true) (h : hs.all okB = true) (l : (regL hs).length ≤ 40) (k : ps ≠ [] → regL hs ≠ [] ∧ ∀ X Y W : Int, 0 < W → (∀ e ∈ ps, Geo.val e X Y W ≤ 0) → ∀ g ∈ hs, Geo.val g X Y W ≤ 0) : wiB ps (regL hs) = true := by
  unfold wiB
  rw [r, rok_regL h l, Bool.and_self, Bool.true_and]
  by_cases n : ps = []
  · rw [decide_eq_true n, Bool.true_or]
  · obtain ⟨k1, k2⟩ := k n
    rw [decide_eq_true k1, Bool.true_and, Bool.or_eq_true]
    refine .inr (List.all_eq_true.2 fun c hc => ?_)
    unfold corR at hc
    rw [if_pos r] at hc
    obtain ⟨i, hi, rfl⟩ := List.getElem_of_mem hc
    have hi' : i < ps.length := by rwa [corL_len] at hi
    have e : (corL ps ps.length)[i] = crA ps i := by
      have := corL_get ps hi'
      rw [List.getElem?_eq_getElem hi] at this
      exact Option.some.inj this
    rw [e]
    obtain ⟨o, c1, ins, _⟩ := cnr_facts r n hi'
    unfold ahB
    rw [List.all_eq_true]
    intro g hg
    rw [decide_eq_true_eq, side_valD]
    rcases List.mem_append.1 (reg_sub h g hg) with m | m
    · exact ins g (List.mem_append_left _ m)
    · exact k2 _ _ _ (by omega) (fun e he => ins e (List.mem_append_right _ he)) g m
theorem ort (bx cy : Int) : -gwa bx cy * bx + gwb bx cy * cy = 0 := by
  unfold gwa gwb
  by_cases g : Int.gcd bx cy = 0
  · rw [g]; simp
  · have e1 : cy.tdiv (Int.gcd bx cy) * (Int.gcd bx cy : Int) = cy := Int.tdiv_mul_cancel (Int.gcd_dvd_right _ _)
    have e2 : bx.tdiv (Int.gcd bx cy) * (Int.gcd bx cy : Int) = bx := Int.tdiv_mul_cancel (Int.gcd_dvd_left _ _)
    generalize cy.tdiv (Int.gcd bx cy) = P at *
    generalize bx.tdiv (Int.gcd bx cy) = Q at *
    have hg : (1 : Int) ≤ (Int.gcd bx cy : Int) := by omega
    generalize (Int.gcd bx cy : Int) = g at *
    subst e1 e2
    grind
theorem gwab_nz {bx cy : Int} (h : ¬ (bx = 0 ∧ cy = 0)) : gwa bx cy ≠ 0 ∨ gwb bx cy ≠ 0 := by
  unfold gwa gwb
  have e1 : cy.tdiv (Int.gcd bx cy) * (Int.gcd bx cy : Int) = cy := Int.tdiv_mul_cancel (Int.gcd_dvd_right _ _)
  have e2 : bx.tdiv (Int.gcd bx cy) * (Int.gcd bx cy : Int) = bx := Int.tdiv_mul_cancel (Int.gcd_dvd_left _ _)
  by_cases z : cy = 0
  · right
    intro q
    rw [q] at e2
    simp at e2
    omega
  · left
    intro q
    rw [q] at e1
    simp at e1
    omega
/-- fewer half planes: a region is there all the more -/
theorem reg_mono {hs ks : List H3} (hk : ks.all okB = true) (hh : hs.all okB = true) (s : ∀ g ∈ hs, g ∈ ks) (n : regL ks ≠ []) : regL hs ≠ [] := by
  intro e
  rcases regL_inv hh with ⟨p, _⟩ | ⟨_, f⟩
  · have := p.1
    rw [e] at this
    simp at this
  · refine n (reg_eq hk (.inr ⟨rfl, f.mono fun g hg => ?_⟩))
    rcases List.mem_append.1 hg with m | m
    · exact List.mem_append_right _ m
    · exact List.mem_append_left _ (s g m)
theorem all_app {hs ks : List H3} (a : hs.all okB = true) (b : ks.all okB = true) : (hs ++ ks).all okB = true := by rw [List.all_append, a, b]; rfl
theorem within_rok {ps qs : List H3} (r : rokB ps = true) (q : rokB qs = true) (nq : qs ≠ []) (k : ps ≠ [] → ∀ X Y W : Int, 0 < W → (∀ e ∈ ps, Geo.val e X Y W ≤ 0) → ∀ g ∈ qs, Geo.val g X Y W ≤ 0) : wiB ps qs = true := by
  have e := rok_reg q nq
  have := within_of r (rok_allB q) (by rw [e]; exact rok_len q) (fun n => ⟨by rw [e]; exact nq, k n⟩)
  rwa [e] at this
/-- a region within another is its own meet with it -/
theorem meet_same {ps qs : List H3} (r : rokB ps = true) (n : ps ≠ []) (q : rokB qs = true) (h : wiB ps qs = true) : regL (ps ++ qs) = ps := by
  refine reg_eq (all_app (rok_allB r) (rok_allB q)) (.inl ⟨(rok_poly r n).1, fun x hx => List.mem_append_left _ (List.mem_append_left _ hx), fun p hp g hg => ?_⟩)
  obtain ⟨i, hi, rfl⟩ := cyc_ix hp
  obtain ⟨o, c1, ins, _, _, kk, hkk, _, e2⟩ := cnr_facts r n hi
  rw [e2]
  refine Int.mul_nonpos_of_nonneg_of_nonpos (by omega) ?_
  rcases List.mem_append.1 hg with m | m
  · rcases List.mem_append.1 m with m | m
    · exact ins g (List.mem_append_right _ m)
    · unfold wiB at h
      rw [r, q, decide_eq_false n] at h
      simp only [Bool.and_self, Bool.true_and, Bool.false_or, Bool.and_eq_true] at h
      have hc : crA ps i ∈ corR ps := by
        unfold corR
        rw [if_pos r]
        exact List.mem_of_getElem? (corL_get ps hi)
      have := List.all_eq_true.1 h.2 _ hc
      unfold ahB at this
      have := List.all_eq_true.1 this g m
      rw [decide_eq_true_eq, side_valD] at this
      exact this
  · exact ins g (List.mem_append_left _ m)
theorem has_ok {a b c : Int} (h0 : a ≠ 0 ∨ b ≠ 0) (ha : -50000 ≤ a) (ha2 : a ≤ 50000) (hb : -50000 ≤ b) (hb2 : b ≤ 50000) (hc : -100000000 ≤ c) (hc2 : c ≤ 100000000) : hasH a b c = true := by
  obtain ⟨A, B, C, g, e, _⟩ := has_half h0 ha ha2 hb hb2 hc hc2
  cases k : hasH a b c with
  | true => rfl
  | false => rw [ansH_no k] at e; simp [zeroS, spotS] at e
end Go.Proofs.YtibkmhmeoelpdaaGreat
