/- ErodeRegion of the program over the translation. GrowAlong: the half planes that touch a region, and the move of an edge, of the program over the translation. -/
import Derived.Test.YtibkmhmeoelpdaaMz
import Derived.Test.YtibkmhmeoelpdaaMw
import Derived.Test.YtibkmhmeoelpdaaFg
namespace Go.Proofs.Ytibkmhmeoelpdaa
open Go.RowKit Go.Shelf
open Geo (H3)

/-- an edge that is moved inwards by a fraction -/
def erC (N D : Int) (h : H3) : Int := h.c * D - N
theorem er_cop {C N D : Int} (g : Int.gcd N D = 1) : Int.gcd (C * D - N) D = 1 := by
  have h1 : ((Int.gcd (C * D - N) D : Nat) : Int) ∣ D := Int.gcd_dvd_right ..
  have h2 : ((Int.gcd (C * D - N) D : Nat) : Int) ∣ C * D - N := Int.gcd_dvd_left ..
  have h3 : ((Int.gcd (C * D - N) D : Nat) : Int) ∣ N := by
    have h4 := Int.dvd_sub (Int.dvd_trans h1 (Int.dvd_mul_left C D)) h2
    rwa [show C * D - (C * D - N) = N by omega] at h4
  have h5 : Int.gcd (C * D - N) D ∣ Int.gcd N D := Int.dvd_gcd h3 h1
  rw [g] at h5
  exact Nat.dvd_one.1 h5
theorem cop_dvd {G : Nat} {A D : Int} (h : (G : Int) ∣ A * D) (c : Int.gcd (G : Int) D = 1) : (G : Int) ∣ A := by
  have h' := Int.natAbs_dvd_natAbs.2 h
  rw [Int.natAbs_mul, Int.natAbs_natCast] at h'
  exact Int.natAbs_dvd_natAbs.1 (by rw [Int.natAbs_natCast]; exact Nat.Coprime.dvd_of_dvd_mul_right (show Nat.Coprime G D.natAbs from c) h')
theorem er_big {A B C N D : Int} (g : Int.gcd N D = 1) (hD : 50000 < D) (hAB : A ≠ 0 ∨ B ≠ 0) : hasH (A * D) (B * D) (C * D - N) = false := by
  cases hx : hasH (A * D) (B * D) (C * D - N) with
  | false => rfl
  | true =>
    unfold hasH at hx
    rw [Bool.and_eq_true] at hx
    obtain ⟨a1, a2, b1, b2, _⟩ := (okH_iff _ _ _).1 hx.2
    have gp : 0 < gS (A * D) (B * D) (C * D - N) := by
      unfold gS
      refine Nat.pos_of_ne_zero fun e => ?_
      have e1 := (Int.gcd_eq_zero_iff.1 e).1
      have e2 := Int.gcd_eq_zero_iff.1 (by exact_mod_cast e1)
      rcases hAB with h | h
      · exact absurd e2.1 (Int.mul_ne_zero h (by omega))
      · exact absurd e2.2 (Int.mul_ne_zero h (by omega))
    have d1 : ((gS (A * D) (B * D) (C * D - N) : Nat) : Int) ∣ ((Int.gcd (A * D) (B * D) : Nat) : Int) := Int.gcd_dvd_left ..
    have d2 : ((gS (A * D) (B * D) (C * D - N) : Nat) : Int) ∣ C * D - N := Int.gcd_dvd_right ..
    have dA := Int.dvd_trans d1 (Int.gcd_dvd_left (a := A * D) (b := B * D))
    have dB := Int.dvd_trans d1 (Int.gcd_dvd_right (a := A * D) (b := B * D))
    generalize gS (A * D) (B * D) (C * D - N) = G at *
    have cG : Int.gcd (G : Int) D = 1 := by
      have x1 : ((Int.gcd (G : Int) D : Nat) : Int) ∣ D := Int.gcd_dvd_right ..
      have x2 := Int.dvd_trans (Int.gcd_dvd_left (a := (G : Int)) (b := D)) d2
      have x3 : Int.gcd (G : Int) D ∣ Int.gcd (C * D - N) D := Int.dvd_gcd x2 x1
      rw [er_cop g] at x3
      exact Nat.dvd_one.1 x3
    obtain ⟨a', ha⟩ := cop_dvd dA cG
    obtain ⟨b', hb⟩ := cop_dvd dB cG
    rw [ha, Int.mul_assoc, Int.mul_tdiv_cancel_left _ (by omega)] at a1 a2
    rw [hb, Int.mul_assoc, Int.mul_tdiv_cancel_left _ (by omega)] at b1 b2
    have z : ∀ x : Int, -50000 ≤ x * D → x * D ≤ 50000 → x = 0 := by
      intro x h1 h2
      rcases Int.lt_trichotomy x 0 with h | h | h
      · have := Int.mul_le_mul_of_nonneg_right (show x ≤ -1 by omega) (show 0 ≤ D by omega); omega
      · exact h
      · have := Int.mul_le_mul_of_nonneg_right (show 1 ≤ x by omega) (show 0 ≤ D by omega); omega
    have za := z _ a1 a2
    have zb := z _ b1 b2
    subst za; subst zb
    omega
/-- the greatest value of the other region in an edge's direction -/
noncomputable def erN (qs : List H3) (h : H3) : Int := (farS h.a h.b qs qs.length).2.1
noncomputable def erD (qs : List H3) (h : H3) : Int := (farS h.a h.b qs qs.length).2.2
noncomputable def erB (qs : List H3) (h : H3) : Bool := hasH (h.a * erD qs h) (h.b * erD qs h) (h.c * erD qs h - erN qs h)
noncomputable def erM (qs : List H3) (h : H3) : H3 := redH (h.a * erD qs h) (h.b * erD qs h) (h.c * erD qs h - erN qs h)
theorem er_ok (qs : List H3) (h : H3) (k : erB qs h = true) : okB (erM qs h) = true := red_ok k
theorem ok_in {h : H3} (k : okB h = true) : In5 h.a ∧ In5 h.b ∧ (-100000000 ≤ h.c ∧ h.c ≤ 100000000) ∧ (h.a ≠ 0 ∨ h.b ≠ 0) ∧ inB h.a (-50000) 50000 = true ∧ inB h.b (-50000) 50000 = true := by
  obtain ⟨a1, a2, b1, b2, n, c1, c2, _⟩ := (okH_iff _ _ _).1 k
  exact ⟨⟨a1, a2⟩, ⟨b1, b2⟩, ⟨c1, c2⟩, n, by unfold inB; simp [a1, a2], by unfold inB; simp [b1, b2]⟩
theorem er_in {qs : List H3} {h : H3} (hq : rokB qs = true) (ne : qs ≠ []) (k : okB h = true) :
    (-250000000000000 ≤ h.a * erD qs h ∧ h.a * erD qs h ≤ 250000000000000) ∧ (-250000000000000 ≤ h.b * erD qs h ∧ h.b * erD qs h ≤ 250000000000000) ∧ (-500000000000000000 ≤ h.c * erD qs h ∧ h.c * erD qs h ≤ 500000000000000000) ∧ (-500000000000000000 ≤ erN qs h ∧ erN qs h ≤ 500000000000000000) ∧ (1 ≤ erD qs h ∧ erD qs h ≤ 5000000000) ∧ Int.gcd (erN qs h) (erD qs h) = 1 ∧ supR h.a h.b qs = farS h.a h.b qs qs.length := by
  obtain ⟨⟨a1, a2⟩, ⟨b1, b2⟩, ⟨c1, c2⟩, _, i1, i2⟩ := ok_in k
  obtain ⟨_, e, q, _, ⟨n1, n2⟩, d1, d2⟩ := sup_of rfl hq ne i1 i2
  obtain ⟨o1, _, _, _, o5⟩ := (okR_iff _ _).1 q
  have m1 := mul_in h.a (erD qs h) 50000 5000000000 a1 a2 (by unfold erD; omega) d2
  have m2 := mul_in h.b (erD qs h) 50000 5000000000 b1 b2 (by unfold erD; omega) d2
  have m3 := mul_in h.c (erD qs h) 100000000 5000000000 c1 c2 (by unfold erD; omega) d2
  exact ⟨by omega, by omega, by omega, ⟨n1, n2⟩, ⟨o1, d2⟩, o5, e⟩
/-- what ErodeRegion answers -/
noncomputable def eroB (ps qs : List H3) : Bool := rokB ps && rokB qs && decide (qs ≠ []) && mvB (erB qs) (erM qs) [] ps
noncomputable def eroL (ps qs : List H3) : List H3 := if rokB ps = true ∧ rokB qs = true ∧ qs ≠ [] then mvL (erB qs) (erM qs) [] ps else []
theorem ero_no {ps qs : List H3} (h : rokB ps = false ∨ rokB qs = false ∨ qs = []) : eroL ps qs = [] ∧ eroB ps qs = false := by
  refine ⟨?_, ?_⟩
  · unfold eroL; rw [if_neg]; rintro ⟨a, b, c⟩; rcases h with h | h | h <;> simp_all
  · unfold eroB; rcases h with h | h | h <;> simp [h]
theorem ero_yes {ps qs : List H3} (h1 : rokB ps = true) (h2 : rokB qs = true) (h3 : qs ≠ []) : eroL ps qs = mvL (erB qs) (erM qs) [] ps ∧ eroB ps qs = mvB (erB qs) (erM qs) [] ps :=
  ⟨if_pos ⟨h1, h2, h3⟩, by unfold eroB; rw [h1, h2, decide_eq_true h3]; simp⟩

/-- the half plane of a direction that touches a region -/
noncomputable def tcB (A B : Int) (ps : List H3) : Bool := hasH (A * (farS A B ps ps.length).2.2) (B * (farS A B ps ps.length).2.2) (farS A B ps ps.length).2.1
noncomputable def tcH (A B : Int) (ps : List H3) : H3 := redH (A * (farS A B ps ps.length).2.2) (B * (farS A B ps ps.length).2.2) (farS A B ps ps.length).2.1
/-- an edge that is grown along a way -/
def slp (bx by' : Int) (h : H3) : Int := h.a * bx + h.b * by'
def grB (bx by' lo hi : Int) (h : H3) : Bool := hasH h.a h.b (h.c + max (-lo * slp bx by' h) (-hi * slp bx by' h))
def grM (bx by' lo hi : Int) (h : H3) : H3 := redH h.a h.b (h.c + max (-lo * slp bx by' h) (-hi * slp bx by' h))
theorem gr_ok (bx by' lo hi : Int) (h : H3) (k : grB bx by' lo hi h = true) : okB (grM bx by' lo hi h) = true := red_ok k
def In100 (d : Int) : Prop := -100 ≤ d ∧ d ≤ 100
def In1k (d : Int) : Prop := -1000 ≤ d ∧ d ≤ 1000
theorem gr_in {bx by' lo hi : Int} (hx : In100 bx) (hy : In100 by') (hlo : In1k lo) (hhi : In1k hi) {h : H3} (k : okB h = true) : (-5000000 ≤ h.a * bx ∧ h.a * bx ≤ 5000000) ∧ (-5000000 ≤ h.b * by' ∧ h.b * by' ≤ 5000000) ∧ (-10000000000 ≤ -lo * slp bx by' h ∧ -lo * slp bx by' h ≤ 10000000000) ∧ (-10000000000 ≤ -hi * slp bx by' h ∧ -hi * slp bx by' h ≤ 10000000000) ∧ (-50000 ≤ h.a ∧ h.a ≤ 50000) ∧ (-50000 ≤ h.b ∧ h.b ≤ 50000) ∧ (-100000000 ≤ h.c ∧ h.c ≤ 100000000) := by
  obtain ⟨a1, a2, b1, b2, _, c1, c2, _⟩ := (okH_iff _ _ _).1 k
  have m1 := mul_in h.a bx 50000 100 a1 a2 hx.1 hx.2
  have m2 := mul_in h.b by' 50000 100 b1 b2 hy.1 hy.2
  have s1 : -10000000 ≤ slp bx by' h ∧ slp bx by' h ≤ 10000000 := by unfold slp; omega
  have m3 := mul_in (-lo) (slp bx by' h) 1000 10000000 (by have := hlo.2; omega) (by have := hlo.1; omega) s1.1 s1.2
  have m4 := mul_in (-hi) (slp bx by' h) 1000 10000000 (by have := hhi.2; omega) (by have := hhi.1; omega) s1.1 s1.2
  omega
end Go.Proofs.Ytibkmhmeoelpdaa
