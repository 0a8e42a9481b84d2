/- The corners of a valid region are valid spots that lie on two borders and in every half plane of the region and of the frame. The value of a direction at a valid spot as a valid fraction, both RatioOf functions there, and the farthest of a region's corners. -/
import Derived.Test.YtibkmhmeoelpdaaCv
import Derived.Test.YtibkmhmeoelpdaaMw
import Derived.Test.YtibkmhmeoelpdaaCq
namespace Go.Proofs.Ytibkmhmeoelpdaa
open Go.RowKit
open Geo (H3)

theorem prs_ix (l : List H3) (z : H3) (i : Nat) (h : i < l.length) : (Geo.prs l z)[i]? = some (atI l i, if i + 1 < l.length then atI l (i + 1) else z) := by
  induction l generalizing i with
  | nil => simp at h
  | cons x l ih =>
    cases i with
    | zero =>
      cases l with
      | nil => simp [Geo.prs, atI]
      | cons y l => simp [Geo.prs, atI]
    | succ i =>
      have := ih i (by simpa using h)
      simp only [Geo.prs, List.getElem?_cons_succ, this]
      simp [atI]
theorem cyc_in {l : List H3} {i : Nat} (h : i < l.length) : (atI l i, atI l ((i + 1) % l.length)) ∈ Geo.cyc l := by
  have e := prs_ix l (l.headD ⟨0, 0, 0⟩) i h
  unfold Geo.cyc
  refine List.mem_of_getElem? (i := i) ?_
  rw [e]
  by_cases k : i + 1 < l.length
  · rw [if_pos k, Nat.mod_eq_of_lt k]
  · rw [if_neg k, show i + 1 = l.length by omega, Nat.mod_self]
    cases l with
    | nil => simp at h
    | cons x l => simp [atI]
theorem cyc_ix {l : List H3} {p : H3 × H3} (h : p ∈ Geo.cyc l) : ∃ i, i < l.length ∧ p = (atI l i, atI l ((i + 1) % l.length)) := by
  obtain ⟨i, hi⟩ := List.getElem?_of_mem h
  have hl : (Geo.cyc l).length = l.length := by
    have := congrArg List.length (Geo.prs_fst l (l.headD ⟨0, 0, 0⟩))
    simpa [Geo.cyc] using this
  have hlt : i < l.length := by
    have := (List.getElem?_eq_some_iff.1 hi).1
    omega
  refine ⟨i, hlt, ?_⟩
  have e := prs_ix l (l.headD ⟨0, 0, 0⟩) i hlt
  unfold Geo.cyc at hi
  rw [hi] at e
  injection e with e
  rw [e]
  by_cases k : i + 1 < l.length
  · rw [if_pos k, Nat.mod_eq_of_lt k]
  · rw [if_neg k, show i + 1 = l.length by omega, Nat.mod_self]
    cases l with
    | nil => simp at hlt
    | cons x l => simp [atI]
theorem inv_poly {E H : List H3} (h : Geo.Inv E H) (n : E ≠ []) : Geo.Poly E ∧ (∀ x ∈ E, x ∈ H) ∧ ∀ p ∈ Geo.cyc E, ∀ g ∈ H, Geo.D p.1 p.2 g ≤ 0 := by
  rcases h with h | ⟨h, _⟩
  · exact h
  · exact absurd h n
theorem rok_inv {ps : List H3} (h : rokB ps = true) (n : ps ≠ []) : Geo.Inv ps (Geo.frame ++ ps) := by
  have := regL_inv (rok_allB h)
  rwa [rok_reg h n] at this
theorem rok_poly {ps : List H3} (h : rokB ps = true) (n : ps ≠ []) : Geo.Poly ps ∧ ∀ p ∈ Geo.cyc ps, ∀ g ∈ Geo.frame ++ ps, Geo.D p.1 p.2 g ≤ 0 := by
  have := inv_poly (rok_inv h n) n
  exact ⟨this.1, this.2.2⟩
/-- the crossing of two borders that lies in the frame -/
theorem crn_of {f g : H3} (hf : okB f = true) (hg : okB g = true) (t : 0 < Geo.tn f g) (fr : ∀ y ∈ Geo.frame, Geo.D f g y ≤ 0) :
    crsV f.a f.b f.c g.a g.b g.c = .tuple #[.agg #[.int .i64 (crn f g).a, .int .i64 (crn f g).b, .int .i64 (crn f g).c], .bool true] ∧ okS (crn f g).a (crn f g).b (crn f g).c = true ∧
    ∃ k : Int, 1 ≤ k ∧ Geo.tn f g = k * (crn f g).c ∧ ∀ y, Geo.D f g y = k * Geo.val y (crn f g).a (crn f g).b (crn f g).c := by
  obtain ⟨c1, c2⟩ := cr_pos t
  have pt := cr_pt hf hg
  have hfr : frmB (crP f g) = true := by
    have a1 := fr ⟨1, 0, 1000⟩ (by simp [Geo.frame])
    have a2 := fr ⟨0, 1, 1000⟩ (by simp [Geo.frame])
    have a3 := fr ⟨-1, 0, 1000⟩ (by simp [Geo.frame])
    have a4 := fr ⟨0, -1, 1000⟩ (by simp [Geo.frame])
    rw [← c2] at a1 a2 a3 a4
    unfold Geo.val at a1 a2 a3 a4
    simp only at a1 a2 a3 a4
    unfold frmB
    simp only [Bool.and_eq_true, decide_eq_true_eq]
    omega
  obtain ⟨hs, hd⟩ := has_of pt hfr
  obtain ⟨X, Y, D, k, hk, ek, hX, hY, hD, tX, tY, tD, hD1⟩ := parts (crP f g).a (crP f g).b (crP f g).c hd
  have e1 : crsV f.a f.b f.c g.a g.b g.c = ansS (crP f g).a (crP f g).b (crP f g).c := by
    unfold Geo.tn at t
    unfold crsV crP
    rw [if_neg (by omega), if_neg (by grind)]
    simp only
    congr 1 <;> grind
  have ok := (hasS_pos hs).2
  rw [← ek, tX, tY, tD] at ok
  rw [ansS_yes hs, ← ek, tX, tY, tD] at e1
  obtain ⟨B, hB⟩ := crn_eq f g
  rw [e1] at hB
  unfold spotS at hB
  simp only [Value.tuple.injEq, Array.mk.injEq, List.cons.injEq, Value.agg.injEq, Value.int.injEq, true_and, and_true, Value.bool.injEq] at hB
  obtain ⟨⟨h1, h2, h3⟩, h4⟩ := hB
  rw [e1, ← h1, ← h2, ← h3]
  refine ⟨rfl, ok, k, hk, by rw [← c1, hD], fun y => ?_⟩
  rw [← c2, hX, hY, hD]
  unfold Geo.val
  grind
/-- a corner of a valid region -/
def cnr (ps : List H3) (i : Nat) : H3 × H3 := (atI ps i, atI ps ((i + 1) % ps.length))
noncomputable def crA (ps : List H3) (i : Nat) : H3 := crn (atI ps i) (atI ps ((i + 1) % ps.length))
theorem atI_mem {ps : List H3} {i : Nat} (h : i < ps.length) : atI ps i ∈ ps := by rw [atI_get h]; exact List.getElem_mem h
theorem cnr_facts {ps : List H3} (h : rokB ps = true) (n : ps ≠ []) {i : Nat} (hi : i < ps.length) :
    okS (crA ps i).a (crA ps i).b (crA ps i).c = true ∧ 1 ≤ (crA ps i).c ∧ (∀ y ∈ Geo.frame ++ ps, Geo.val y (crA ps i).a (crA ps i).b (crA ps i).c ≤ 0) ∧
    Geo.val (atI ps i) (crA ps i).a (crA ps i).b (crA ps i).c = 0 ∧ Geo.val (atI ps ((i + 1) % ps.length)) (crA ps i).a (crA ps i).b (crA ps i).c = 0 ∧
    ∃ k : Int, 1 ≤ k ∧ Geo.tn (atI ps i) (atI ps ((i + 1) % ps.length)) = k * (crA ps i).c ∧ ∀ y, Geo.D (atI ps i) (atI ps ((i + 1) % ps.length)) y = k * Geo.val y (crA ps i).a (crA ps i).b (crA ps i).c := by
  obtain ⟨P, c⟩ := rok_poly h n
  have m := cyc_in hi
  have ok := rok_all h
  have c' := c _ m
  have t := (P.2.2.2 _ m).1
  have j : (i + 1) % ps.length < ps.length := Nat.mod_lt _ (by omega)
  simp only at c' t
  obtain ⟨_, o, k, hk, e1, e2⟩ := crn_of (ok _ (atI_mem hi)) (ok _ (atI_mem j)) t (fun y hy => c' y (List.mem_append.2 (.inl hy)))
  have o' := (okS_iff _ _ _).1 o
  have pos : ∀ v : Int, k * v ≤ 0 → v ≤ 0 := fun v hv => by
    rcases Int.lt_or_le 0 v with q | q
    · have := Int.mul_pos (by omega : 0 < k) q; omega
    · exact q
  have zer : ∀ v : Int, 0 = k * v → v = 0 := fun v hv => by
    rcases Int.mul_eq_zero.1 hv.symm with q | q
    · omega
    · exact q
  have e3 : ∀ y, Geo.D (atI ps i) (atI ps ((i + 1) % ps.length)) y = k * Geo.val y (crA ps i).a (crA ps i).b (crA ps i).c := e2
  refine ⟨o, o'.1, fun y hy => pos _ ?_, zer _ ?_, zer _ ?_, k, hk, e1, e2⟩
  · rw [← e3]; exact c' y hy
  · rw [← e3]; unfold Geo.D; grind
  · rw [← e3]; unfold Geo.D; grind
theorem corL_get (ps : List H3) {k i : Nat} (h : i < k) : (corL ps k)[i]? = some (crA ps i) := by
  unfold corL crA
  simp [h]

/-- the value of a direction at a spot, in lowest terms -/
def vaN (a b : Int) (p : H3) : Int := sgnR (a * p.a + b * p.b) p.c
def vaD (a b : Int) (p : H3) : Int := (botR (a * p.a + b * p.b) p.c : Int)
def In5 (a : Int) : Prop := -50000 ≤ a ∧ a ≤ 50000
theorem sgn_div {n d : Int} (hd : 0 < d) : n / (Int.gcd n d : Int) = sgnR n d ∧ d / (Int.gcd n d : Int) = (botR n d : Int) ∧ n.tdiv (Int.gcd n d : Int) = sgnR n d ∧ sgnR n d * (Int.gcd n d : Int) = n ∧ (botR n d : Int) * (Int.gcd n d : Int) = d := by
  have hg : 0 < Int.gcd n d := Nat.gcd_pos_of_pos_right _ (by omega)
  obtain ⟨k, hk⟩ := Int.gcd_dvd_left (a := n) (b := d)
  obtain ⟨m, hm⟩ := Int.gcd_dvd_right (a := n) (b := d)
  unfold sgnR topR botR
  generalize Int.gcd n d = g at *
  have hg' : (0 : Int) < g := by omega
  have e1 : n / (g : Int) = k := by rw [hk]; exact Int.mul_ediv_cancel_left _ (by omega)
  have e2 : d / (g : Int) = m := by rw [hm]; exact Int.mul_ediv_cancel_left _ (by omega)
  have e3 : n.tdiv (g : Int) = k := by rw [hk]; exact Int.mul_tdiv_cancel_left _ (by omega)
  have hm0 : 0 ≤ m := by
    rcases Int.lt_or_le m 0 with q | q
    · have := Int.mul_neg_of_pos_of_neg hg' q; omega
    · exact q
  have e4 : ((d.natAbs / g : Nat) : Int) = m := by
    rw [hm, Int.natAbs_mul, Int.natAbs_natCast, Nat.mul_div_cancel_left _ hg]; omega
  have e5 : n.natAbs / g = k.natAbs := by
    rw [hk, Int.natAbs_mul, Int.natAbs_natCast, Nat.mul_div_cancel_left _ hg]
  have hs : (if (decide (n < 0) != decide (d < 0)) = true then -((n.natAbs / g : Nat) : Int) else ((n.natAbs / g : Nat) : Int)) = k := by
    rw [e5, decide_eq_false (show ¬ d < 0 by omega)]
    by_cases q : n < 0
    · have : k < 0 := by
        rcases Int.lt_or_le k 0 with r | r
        · exact r
        · have := Int.mul_nonneg (Int.le_of_lt hg') r; omega
      simp [q]; omega
    · have : 0 ≤ k := by
        rcases Int.lt_or_le k 0 with r | r
        · have := Int.mul_neg_of_pos_of_neg hg' r; omega
        · exact r
      simp [q]; omega
  refine ⟨e1.trans hs.symm, e2.trans e4.symm, e3.trans hs.symm, ?_, ?_⟩
  · rw [hs, hk, Int.mul_comm]
  · rw [e4, hm, Int.mul_comm]
/-- the numbers of such a value -/
theorem va_in {a b : Int} {p : H3} (ha : In5 a) (hb : In5 b) (o : okS p.a p.b p.c = true) : (-250000000000000000 ≤ a * p.a ∧ a * p.a ≤ 250000000000000000) ∧ (-250000000000000000 ≤ b * p.b ∧ b * p.b ≤ 250000000000000000) ∧ 1 ≤ p.c ∧ p.c ≤ 5000000000 := by
  obtain ⟨d1, d2, x1, x2, y1, y2, _⟩ := (okS_iff _ _ _).1 o
  have m1 := mul_in a p.a 50000 5000000000000 ha.1 ha.2 (by omega) (by omega)
  have m2 := mul_in b p.b 50000 5000000000000 hb.1 hb.2 (by omega) (by omega)
  omega
theorem va_facts {a b : Int} {p : H3} (ha : In5 a) (hb : In5 b) (o : okS p.a p.b p.c = true) :
    hasR (a * p.a + b * p.b) p.c = true ∧ okR (vaN a b p) (vaD a b p) = true ∧ vaN a b p * p.c = (a * p.a + b * p.b) * vaD a b p ∧ 1 ≤ vaD a b p ∧ vaD a b p ≤ 5000000000 ∧ -500000000000000000 ≤ vaN a b p ∧ vaN a b p ≤ 500000000000000000 := by
  obtain ⟨m1, m2, d1, d2⟩ := va_in ha hb o
  obtain ⟨_, _, _, e4, e5⟩ := sgn_div (n := a * p.a + b * p.b) (d := p.c) (by omega)
  have t := top_le (a * p.a + b * p.b) p.c
  have bo := bot_le (a * p.a + b * p.b) p.c
  have bp := bot_pos (a * p.a + b * p.b) p.c (by omega)
  have sa := sgn_abs (a * p.a + b * p.b) p.c
  have h : hasR (a * p.a + b * p.b) p.c = true := (hasR_iff _ _).2 ⟨by omega, by omega, by omega⟩
  refine ⟨h, okR_of _ _ h, ?_, ?_, ?_, ?_, ?_⟩
  · unfold vaN vaD
    generalize a * p.a + b * p.b = n at *
    generalize (Int.gcd n p.c : Int) = g at *
    generalize sgnR n p.c = N at *
    generalize (botR n p.c : Int) = D at *
    rw [← e4, ← e5]; grind
  · unfold vaD; omega
  · unfold vaD; omega
  · unfold vaN; omega
  · unfold vaN; omega
theorem impl_va {a b : Int} {p : H3} (ha : In5 a) (hb : In5 b) (o : okS p.a p.b p.c = true) (w : World) :
    Calls Try.prog 33 #[.int .i64 (a * p.a + b * p.b), .int .i64 p.c] w fun e w' => e = .returned (.agg #[.int .i64 (vaN a b p), .int .i64 (vaD a b p)]) ∧ Below w.heap.size w w' := by
  obtain ⟨m1, m2, d1, d2⟩ := va_in ha hb o
  exact impl_of _ _ _ _ _ w (by omega) (by omega) (by omega) (by omega) (va_facts ha hb o).1 rfl rfl rfl
theorem spec_va {a b : Int} {p : H3} (ha : In5 a) (hb : In5 b) (o : okS p.a p.b p.c = true) (w : World) :
    Calls Try.prog 39 #[.int .i64 (a * p.a + b * p.b), .int .i64 p.c] w fun e w' => e = .returned (.agg #[.int .i64 (vaN a b p), .int .i64 (vaD a b p)]) ∧ Below w.heap.size w w' := by
  obtain ⟨m1, m2, d1, d2⟩ := va_in ha hb o
  obtain ⟨_, ok, _, q1, q2, q3, q4⟩ := va_facts ha hb o
  obtain ⟨e1, e2, e3, _, _⟩ := sgn_div (n := a * p.a + b * p.b) (d := p.c) (by omega)
  exact spec_of _ _ _ _ w (by omega) (by omega) (by omega) (by omega) e1 e2 (by unfold vaN at *; omega) (by unfold vaN at *; omega) (by unfold vaD at *; omega) (by unfold vaD at *; omega) e3 ok
/-- the first of the first k corners that is farthest, and its value; -1 and 0/0 if there is none -/
noncomputable def farS (a b : Int) (ps : List H3) : Nat → Int × Int × Int
  | 0 => (-1, 0, 0)
  | k + 1 => if (farS a b ps k).1 < 0 ∨ 0 < cmpO (vaN a b (crA ps k)) (vaD a b (crA ps k)) (farS a b ps k).2.1 (farS a b ps k).2.2 then ((k : Int), vaN a b (crA ps k), vaD a b (crA ps k)) else farS a b ps k
theorem far_yes {a b : Int} {ps : List H3} {k : Nat} (h : (farS a b ps k).1 < 0 ∨ 0 < cmpO (vaN a b (crA ps k)) (vaD a b (crA ps k)) (farS a b ps k).2.1 (farS a b ps k).2.2) : farS a b ps (k + 1) = ((k : Int), vaN a b (crA ps k), vaD a b (crA ps k)) := if_pos h
theorem far_no {a b : Int} {ps : List H3} {k : Nat} (h : ¬ ((farS a b ps k).1 < 0 ∨ 0 < cmpO (vaN a b (crA ps k)) (vaD a b (crA ps k)) (farS a b ps k).2.1 (farS a b ps k).2.2)) : farS a b ps (k + 1) = farS a b ps k := if_neg h
theorem far_ix (a b : Int) (ps : List H3) (k : Nat) : (k = 0 ∧ farS a b ps k = (-1, 0, 0)) ∨ ∃ j : Nat, j < k ∧ farS a b ps k = ((j : Int), vaN a b (crA ps j), vaD a b (crA ps j)) := by
  induction k with
  | zero => exact .inl ⟨rfl, rfl⟩
  | succ k ih =>
    refine .inr ?_
    by_cases h : (farS a b ps k).1 < 0 ∨ 0 < cmpO (vaN a b (crA ps k)) (vaD a b (crA ps k)) (farS a b ps k).2.1 (farS a b ps k).2.2
    · exact ⟨k, Nat.lt_succ_self _, far_yes h⟩
    · rw [far_no h]
      rcases ih with ⟨_, e⟩ | ⟨j, hj, e⟩
      · exact absurd (.inl (by rw [e]; show (-1 : Int) < 0; omega)) h
      · exact ⟨j, by omega, e⟩
/-- no value of a corner is greater -/
theorem far_max {a b : Int} {ps : List H3} (ha : In5 a) (hb : In5 b) (hc : ∀ i, i < ps.length → okS (crA ps i).a (crA ps i).b (crA ps i).c = true) (k : Nat) (hk : k ≤ ps.length) :
    ∀ i, i < k → vaN a b (crA ps i) * (farS a b ps k).2.2 ≤ (farS a b ps k).2.1 * vaD a b (crA ps i) := by
  induction k with
  | zero => intro i hi; omega
  | succ k ih =>
    intro i hi
    have ih' := ih (by omega)
    have fk := va_facts ha hb (hc k (by omega))
    by_cases h : (farS a b ps k).1 < 0 ∨ 0 < cmpO (vaN a b (crA ps k)) (vaD a b (crA ps k)) (farS a b ps k).2.1 (farS a b ps k).2.2
    · rw [far_yes h]
      show vaN a b (crA ps i) * vaD a b (crA ps k) ≤ vaN a b (crA ps k) * vaD a b (crA ps i)
      rcases Nat.lt_or_ge i k with q | q
      · have fi := va_facts ha hb (hc i (by omega))
        rcases far_ix a b ps k with ⟨z, _⟩ | ⟨j, hj, e⟩
        · omega
        · have fj := va_facts ha hb (hc j (by omega))
          have := ih' i q
          rw [e] at this h
          simp only at this h
          rcases h with h | h
          · omega
          · rw [cmpO_of fk.2.1 fj.2.1] at h
            unfold cmpR at h
            have hlt : vaN a b (crA ps j) * vaD a b (crA ps k) < vaN a b (crA ps k) * vaD a b (crA ps j) := by
              split at h
              · omega
              · split at h
                · assumption
                · omega
            have di := fi.2.2.2.1
            have dj := fj.2.2.2.1
            have dk := fk.2.2.2.1
            generalize vaN a b (crA ps i) = ni at *
            generalize vaN a b (crA ps j) = nj at *
            generalize vaN a b (crA ps k) = nk at *
            generalize vaD a b (crA ps i) = pi at *
            generalize vaD a b (crA ps j) = pj at *
            generalize vaD a b (crA ps k) = pk at *
            have s1 := Int.mul_le_mul_of_nonneg_right this (show 0 ≤ pk by omega)
            have s2 := Int.mul_le_mul_of_nonneg_right (Int.le_of_lt hlt) (show 0 ≤ pi by omega)
            have : pj * (ni * pk) ≤ pj * (nk * pi) := by
              rw [show pj * (ni * pk) = ni * pj * pk by grind, show pj * (nk * pi) = nk * pj * pi by grind]
              rw [show nj * pi * pk = nj * pk * pi by grind] at s1
              omega
            exact Int.le_of_mul_le_mul_left this (by omega)
      · obtain rfl : i = k := by omega
        exact Int.le_refl _
    · rw [far_no h]
      rcases Nat.lt_or_ge i k with q | q
      · exact ih' i q
      · obtain rfl : i = k := by omega
        rcases far_ix a b ps i with ⟨_, e⟩ | ⟨j, hj, e⟩
        · exact absurd (.inl (by rw [e]; show (-1 : Int) < 0; omega)) h
        · have fj := va_facts ha hb (hc j (by omega))
          rw [e] at h ⊢
          simp only at h ⊢
          rw [cmpO_of fk.2.1 fj.2.1] at h
          unfold cmpR at h
          rcases Int.lt_or_le (vaN a b (crA ps j) * vaD a b (crA ps i)) (vaN a b (crA ps i) * vaD a b (crA ps j)) with r | r
          · exact absurd (.inr (by rw [if_neg (by omega), if_pos r]; omega)) h
          · exact r
end Go.Proofs.Ytibkmhmeoelpdaa
