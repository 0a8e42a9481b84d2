/- A region grown along a direction (no calls). -/
import Derived.Test.YtfndkapjclhflaaAf
import Derived.Test.YtfndkapjclhflaaAd
import Derived.Test.YtfndkapjclhflaaWk
import Derived.Test.YtfndkapjclhflaaGs
namespace Go.Proofs.Ytfndkapjclhflaa
open Go.RowKit
open Geo (H3)

/-- the spots of a region lie in the region of half planes that hold them all -/
theorem within_of {ps hs : List H3} (r : rokB ps = true) (h : hs.all okB = true) (l : (regL hs).length ≤ 40) (k : ps ≠ [] → regL hs ≠ [] ∧ ∀ X Y W : Int, 0 < W → (∀ e ∈ ps, Geo.val e X Y W ≤ 0) → ∀ g ∈ hs, Geo.val g X Y W ≤ 0) : wiB ps (regL hs) = true := by
  unfold wiB
  rw [r, rok_regL h l, Bool.and_self, Bool.true_and]
  by_cases n : ps = []
  · rw [decide_eq_true n, Bool.true_or]
  · obtain ⟨k1, k2⟩ := k n
    rw [decide_eq_true k1, Bool.true_and, Bool.or_eq_true]
    refine .inr (List.all_eq_true.2 fun c hc => ?_)
    unfold corR at hc
    rw [if_pos r] at hc
    obtain ⟨i, hi, rfl⟩ := List.getElem_of_mem hc
    have hi' : i < ps.length := by rwa [corL_len] at hi
    have e : (corL ps ps.length)[i] = crA ps i := by
      have := corL_get ps hi'
      rw [List.getElem?_eq_getElem hi] at this
      exact Option.some.inj this
    rw [e]
    obtain ⟨o, c1, ins, _⟩ := cnr_facts r n hi'
    unfold ahB
    rw [List.all_eq_true]
    intro g hg
    rw [decide_eq_true_eq, side_valD]
    rcases List.mem_append.1 (reg_sub h g hg) with m | m
    · exact ins g (List.mem_append_left _ m)
    · exact k2 _ _ _ (by omega) (fun e he => ins e (List.mem_append_right _ he)) g m
theorem ort (bx cy : Int) : -gwa bx cy * bx + gwb bx cy * cy = 0 := by
  unfold gwa gwb
  by_cases g : Int.gcd bx cy = 0
  · rw [g]; simp
  · have e1 : cy.tdiv (Int.gcd bx cy) * (Int.gcd bx cy : Int) = cy := Int.tdiv_mul_cancel (Int.gcd_dvd_right _ _)
    have e2 : bx.tdiv (Int.gcd bx cy) * (Int.gcd bx cy : Int) = bx := Int.tdiv_mul_cancel (Int.gcd_dvd_left _ _)
    generalize cy.tdiv (Int.gcd bx cy) = P at *
    generalize bx.tdiv (Int.gcd bx cy) = Q at *
    have hg : (1 : Int) ≤ (Int.gcd bx cy : Int) := by omega
    generalize (Int.gcd bx cy : Int) = g at *
    subst e1 e2
    grind
theorem gwab_nz {bx cy : Int} (h : ¬ (bx = 0 ∧ cy = 0)) : gwa bx cy ≠ 0 ∨ gwb bx cy ≠ 0 := by
  unfold gwa gwb
  have e1 : cy.tdiv (Int.gcd bx cy) * (Int.gcd bx cy : Int) = cy := Int.tdiv_mul_cancel (Int.gcd_dvd_right _ _)
  have e2 : bx.tdiv (Int.gcd bx cy) * (Int.gcd bx cy : Int) = bx := Int.tdiv_mul_cancel (Int.gcd_dvd_left _ _)
  by_cases z : cy = 0
  · right
    intro q
    rw [q] at e2
    simp at e2
    omega
  · left
    intro q
    rw [q] at e1
    simp at e1
    omega
/-- the half plane that touches: what it says is that no spot lies farther -/
theorem touch_val {ps : List H3} {x y u v A B : Int} (F : AreaF ps x y u v) (hA : -10 ≤ A ∧ A ≤ 10) (hB : -10 ≤ B ∧ B ≤ 10) (nz : A ≠ 0 ∨ B ≠ 0) (t : tcB A B ps = true) :
    (∀ X Y W : Int, 0 < W → ∀ p q : Int, A * p + B * q = 0 → (∀ e ∈ ps, Geo.val e (X + p) (Y + q) W ≤ 0) → Geo.val (tcH A B ps) X Y W ≤ 0) ∧ ∀ p q : Int, A * p + B * q = 0 → Geo.val (tcH A B ps) (x + 1 + p) (y + 1 + q) 1 < 0 := by
  obtain ⟨j, N, D, hj, hs, hR, _, _, _, hD, _, hin, st, _⟩ := sup_facts F hA hB
  obtain ⟨_, s2, _⟩ := sup_of rfl F.1 F.2.1 (inB_of (x := A) (by omega) (by omega)) (inB_of (x := B) (by omega) (by omega))
  rw [hR] at s2
  unfold tcB at t
  rw [← s2] at t
  simp only at t
  obtain ⟨g, hg, hv⟩ := red_parts t
  have eH : tcH A B ps = redH (A * D) (B * D) N := by unfold tcH; rw [← s2]
  rw [eH]
  constructor
  · intro X Y W w p q z k
    refine (scale_le hg).1 ?_
    rw [← hv]
    have := hin _ _ W w k
    have e : (A * (X + p) + B * (Y + q)) * D = A * D * X + B * D * Y + (A * p + B * q) * D := by grind
    rw [e, z] at this
    omega
  · intro p q z
    refine (scale_lt hg).1 ?_
    rw [← hv]
    have := st nz
    have e : A * D * (x + 1 + p) + B * D * (y + 1 + q) = (A * (x + 1) + B * (y + 1)) * D + (A * p + B * q) * D := by grind
    rw [e, z]
    omega
theorem max_le {a b m n u s W : Int} (hW : 0 ≤ W) (h1 : m ≤ u) (h2 : u ≤ n) (k : a + u * s * W - b ≤ 0) : a - b - max (-m * s) (-n * s) * W ≤ 0 := by
  have : -u * s ≤ max (-m * s) (-n * s) := by
    rcases Int.lt_or_le s 0 with q | q
    · have : -u * s ≤ -n * s := Int.mul_le_mul_of_nonpos_right (by omega) (by omega)
      omega
    · have : -u * s ≤ -m * s := Int.mul_le_mul_of_nonneg_right (by omega) q
      omega
  have := Int.mul_le_mul_of_nonneg_right this hW
  have e : -u * s * W = -(u * s * W) := by grind
  rw [e] at this
  omega
theorem grow_val {bx cy lo hi u : Int} {e : H3} (b : grB bx cy lo hi e = true) (h1 : lo ≤ u) (h2 : u ≤ hi) {X Y W : Int} (hW : 0 ≤ W) (k : Geo.val e (X + u * bx * W) (Y + u * cy * W) W ≤ 0) : Geo.val (grM bx cy lo hi e) X Y W ≤ 0 := by
  obtain ⟨g, hg, hv⟩ := red_parts b
  refine (scale_le hg).1 ?_
  show Geo.val (redH e.a e.b (e.c + max (-lo * slp bx cy e) (-hi * slp bx cy e))) X Y W * g ≤ 0
  rw [← hv]
  have k' : (e.a * X + e.b * Y) + u * slp bx cy e * W - e.c * W ≤ 0 := by
    unfold Geo.val at k
    unfold slp
    have : e.a * (X + u * bx * W) + e.b * (Y + u * cy * W) - e.c * W = (e.a * X + e.b * Y) + u * (e.a * bx + e.b * cy) * W - e.c * W := by grind
    omega
  have := max_le hW h1 h2 k'
  have e2 : (e.c + max (-lo * slp bx cy e) (-hi * slp bx cy e)) * W = e.c * W + max (-lo * slp bx cy e) (-hi * slp bx cy e) * W := by rw [Int.add_mul]
  rw [e2]
  omega
theorem grow_lt {bx cy lo hi : Int} {e : H3} (b : grB bx cy lo hi e = true) {X Y : Int} (k : Geo.val e X Y 1 < 0) : Geo.val (grM bx cy lo hi e) (X + -lo * bx) (Y + -lo * cy) 1 < 0 := by
  obtain ⟨g, hg, hv⟩ := red_parts b
  refine (scale_lt hg).1 ?_
  show Geo.val (redH e.a e.b (e.c + max (-lo * slp bx cy e) (-hi * slp bx cy e))) (X + -lo * bx) (Y + -lo * cy) 1 * g < 0
  rw [← hv]
  have : e.a * (X + -lo * bx) + e.b * (Y + -lo * cy) = e.a * X + e.b * Y + -lo * slp bx cy e := by unfold slp; grind
  rw [this]
  unfold Geo.val at k
  have : -lo * slp bx cy e ≤ max (-lo * slp bx cy e) (-hi * slp bx cy e) := by omega
  generalize max (-lo * slp bx cy e) (-hi * slp bx cy e) = m at *
  generalize -lo * slp bx cy e = t at *
  omega
theorem grow_facts {ps : List H3} {x y u v bx cy lo hi : Int} (F : AreaF ps x y u v) (hx : -3 ≤ bx ∧ bx ≤ 3) (hy : -3 ≤ cy ∧ cy ≤ 3) (hlo : -7 ≤ lo ∧ lo ≤ 0) (hhi : lo ≤ hi ∧ hi ≤ lo + 11) :
    (bx = 0 ∧ cy = 0 → gwB ps bx cy lo hi = true) ∧ (gwB ps bx cy lo hi = true → rokB (gwL ps bx cy lo hi) = true ∧ (lo ≤ 0 → 0 ≤ hi → wiB ps (gwL ps bx cy lo hi) = true) ∧
      ∀ X Y t : Int, okS X Y 1 = true → okS (X + t * bx) (Y + t * cy) 1 = true → lo ≤ t → t ≤ hi → hasB ps (X + t * bx) (Y + t * cy) 1 = true → hasB (gwL ps bx cy lo hi) X Y 1 = true) := by
  have r := F.1
  have n := F.2.1
  have hC : gwC ps bx cy lo hi = true := by
    unfold gwC
    rw [inB_of (by omega) (by omega), inB_of (by omega) (by omega), inB_of (by omega) (by omega), inB_of (by omega) (by omega), decide_eq_true (by have := F.2.2.1; omega), r]
    rfl
  by_cases z : bx = 0 ∧ cy = 0
  · obtain ⟨e1, e2⟩ := gw_same hC (.inr z)
    refine ⟨fun _ => e2, fun _ => ?_⟩
    rw [e1]
    refine ⟨r, fun _ _ => ?_, fun X Y t o o' _ _ h => ?_⟩
    · have := within_of r (rok_allB r) (by rw [rok_reg r n]; have := F.2.2.1; omega) (fun _ => ⟨by rw [rok_reg r n]; exact n, fun _ _ _ _ k => k⟩)
      rwa [rok_reg r n] at this
    · rw [z.1, z.2] at h
      simpa using h
  · refine ⟨fun h => absurd h z, fun hb => ?_⟩
    have hT : gwT ps bx cy = true := by
      cases q : gwT ps bx cy with
      | true => rfl
      | false => rw [(gw_tno (lo := lo) (hi := hi) n z q).2] at hb; cases hb
    obtain ⟨eL, eB⟩ := gw_yes hC n z hT
    rw [eB] at hb
    rw [eL]
    obtain ⟨ha, eM, ok, ln⟩ := mv_facts n hb
    rw [eM]
    have t1 : -3 ≤ gwa bx cy ∧ gwa bx cy ≤ 3 := td_in hy.1 hy.2
    have t2 : -3 ≤ gwb bx cy ∧ gwb bx cy ≤ 3 := td_in hx.1 hx.2
    have nz := gwab_nz z
    have or1 := ort bx cy
    unfold gwT at hT
    rw [Bool.and_eq_true] at hT
    obtain ⟨u1, v1⟩ := touch_val F (A := -gwa bx cy) (B := gwb bx cy) (by omega) (by omega) (by omega) hT.1
    obtain ⟨u2, v2⟩ := touch_val F (A := gwa bx cy) (B := -gwb bx cy) (by omega) (by omega) (by omega) hT.2
    have key : ∀ t X Y W : Int, lo ≤ t → t ≤ hi → 0 < W → (∀ e ∈ ps, Geo.val e (X + t * bx * W) (Y + t * cy * W) W ≤ 0) → ∀ g ∈ gwU ps bx cy ++ ps.map (grM bx cy lo hi), Geo.val g X Y W ≤ 0 := by
      intro t X Y W h1 h2 w k g hg
      rcases List.mem_append.1 hg with m | m
      · unfold gwU at m
        simp only [List.mem_cons, List.not_mem_nil, or_false] at m
        rcases m with rfl | rfl
        · exact u1 X Y W w _ _ (by have : -gwa bx cy * (t * bx * W) + gwb bx cy * (t * cy * W) = (-gwa bx cy * bx + gwb bx cy * cy) * (t * W) := by grind
                                   rw [this, or1]; simp) k
        · exact u2 X Y W w _ _ (by have : gwa bx cy * (t * bx * W) + -gwb bx cy * (t * cy * W) = -((-gwa bx cy * bx + gwb bx cy * cy) * (t * W)) := by grind
                                   rw [this, or1]; simp) k
      · obtain ⟨e, he, rfl⟩ := List.mem_map.1 m
        exact grow_val (List.all_eq_true.1 ha e he) h1 h2 (by omega) (k e he)
    have ne : regL (gwU ps bx cy ++ ps.map (grM bx cy lo hi)) ≠ [] := by
      have pr : ∀ b : Int, (-3 ≤ b ∧ b ≤ 3) → -21 ≤ -lo * b ∧ -lo * b ≤ 21 := by
        intro b hb
        rcases (by omega : b = -3 ∨ b = -2 ∨ b = -1 ∨ b = 0 ∨ b = 1 ∨ b = 2 ∨ b = 3) with rfl | rfl | rfl | rfl | rfl | rfl | rfl <;> omega
      have p1 := pr bx hx
      have p2 := pr cy hy
      have q := F.2.2.2.1
      refine strict_some ok (x := x + 1 + -lo * bx) (y := y + 1 + -lo * cy) (by omega) (by omega) (fun g hg => ?_)
      rcases List.mem_append.1 hg with m | m
      · unfold gwU at m
        simp only [List.mem_cons, List.not_mem_nil, or_false] at m
        rcases m with rfl | rfl
        · exact v1 _ _ (by have : -gwa bx cy * (-lo * bx) + gwb bx cy * (-lo * cy) = (-gwa bx cy * bx + gwb bx cy * cy) * -lo := by grind
                           rw [this, or1]; simp)
        · exact v2 _ _ (by have : gwa bx cy * (-lo * bx) + -gwb bx cy * (-lo * cy) = -((-gwa bx cy * bx + gwb bx cy * cy) * -lo) := by grind
                           rw [this, or1]; simp)
      · obtain ⟨e, he, rfl⟩ := List.mem_map.1 m
        exact grow_lt (List.all_eq_true.1 ha e he) (F.2.2.2.2.1 e he)
    refine ⟨rok_regL ok ln, fun h1 h2 => within_of r ok ln (fun _ => ⟨ne, fun X Y W w k g hg => key 0 X Y W h1 h2 w (by simpa using k) g hg⟩), fun X Y t o o' h1 h2 h => ?_⟩
    rw [has_reg ok ln ne o]
    rw [has_iff r n o'] at h
    exact key t X Y 1 h1 h2 (by omega) (by simpa using h)
end Go.Proofs.Ytfndkapjclhflaa
