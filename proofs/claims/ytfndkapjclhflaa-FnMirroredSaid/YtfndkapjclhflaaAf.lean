/- Supports and widths of drawn areas (no calls). -/
import Derived.Test.YtfndkapjclhflaaAa
import Derived.Test.YtfndkapjclhflaaYe
import Derived.Test.YtfndkapjclhflaaGs
namespace Go.Proofs.Ytfndkapjclhflaa
open Go.RowKit
open Geo (H3)

theorem near_in {ps : List H3} {x y u v i j : Int} (F : AreaF ps x y u v) (hi : -1 ≤ i ∧ i ≤ 1) (hj : -1 ≤ j ∧ j ≤ 1) : ∀ e ∈ ps, Geo.val e (10 * (x + 1) + i) (10 * (y + 1) + j) 10 ≤ 0 := by
  intro e he
  have s := F.2.2.2.2.1 e he
  obtain ⟨a, b, _⟩ := F.2.2.2.2.2.1 e he
  unfold Geo.val at *
  have e1 : e.a * (10 * (x + 1) + i) + e.b * (10 * (y + 1) + j) - e.c * 10 = 10 * (e.a * (x + 1) + e.b * (y + 1) - e.c * 1) + e.a * i + e.b * j := by grind
  rw [e1]
  have m1 : e.a * i ≤ 3 := by rcases (by omega : i = -1 ∨ i = 0 ∨ i = 1) with rfl | rfl | rfl <;> omega
  have m2 : e.b * j ≤ 3 := by rcases (by omega : j = -1 ∨ j = 0 ∨ j = 1) with rfl | rfl | rfl <;> omega
  generalize e.a * (x + 1) + e.b * (y + 1) - e.c * 1 = z at *
  omega
theorem tn_bnd {f g : H3} (f1 : -3 ≤ f.a ∧ f.a ≤ 3) (f2 : -3 ≤ f.b ∧ f.b ≤ 3) (g1 : -3 ≤ g.a ∧ g.a ≤ 3) (g2 : -3 ≤ g.b ∧ g.b ≤ 3) : Geo.tn f g ≤ 18 := by
  unfold Geo.tn
  have k : ∀ a b : Int, (-3 ≤ a ∧ a ≤ 3) → (-3 ≤ b ∧ b ≤ 3) → -9 ≤ a * b ∧ a * b ≤ 9 := by
    intro a b ha hb
    rcases (by omega : a = -3 ∨ a = -2 ∨ a = -1 ∨ a = 0 ∨ a = 1 ∨ a = 2 ∨ a = 3) with rfl | rfl | rfl | rfl | rfl | rfl | rfl <;> omega
  have a1 := k _ _ f1 g2
  have a2 := k _ _ f2 g1
  omega
theorem cor_bnd {ps : List H3} {x y u v : Int} (F : AreaF ps x y u v) {i : Nat} (hi : i < ps.length) : (1 ≤ (crA ps i).c ∧ (crA ps i).c ≤ 18) ∧ (-100 * (crA ps i).c ≤ (crA ps i).a ∧ (crA ps i).a ≤ 100 * (crA ps i).c) ∧ (-100 * (crA ps i).c ≤ (crA ps i).b ∧ (crA ps i).b ≤ 100 * (crA ps i).c) := by
  obtain ⟨r, n, _, q, _, sm, bx⟩ := F
  obtain ⟨o, c1, ins, _, _, k, hk, e1, _⟩ := cnr_facts r n hi
  have j : (i + 1) % ps.length < ps.length := Nat.mod_lt _ (by omega)
  have t := tn_bnd (sm _ (atI_mem hi)).1 (sm _ (atI_mem hi)).2.1 (sm _ (atI_mem j)).1 (sm _ (atI_mem j)).2.1
  have hc : (crA ps i).c ≤ 18 := by
    rw [e1] at t
    have := Int.mul_le_mul_of_nonneg_right hk (show 0 ≤ (crA ps i).c by omega)
    omega
  obtain ⟨⟨b1, b2⟩, b3, b4⟩ := bx _ _ (crA ps i).c (by omega) (fun e he => ins e (List.mem_append_right _ he))
  generalize (crA ps i).c = c at *
  have k : ∀ t : Int, (-40 ≤ t ∧ t ≤ 98) → -100 * c ≤ t * c ∧ t * c ≤ 100 * c := by
    intro t ht
    constructor
    · exact Int.mul_le_mul_of_nonneg_right (by omega) (by omega)
    · exact Int.mul_le_mul_of_nonneg_right (by omega) (by omega)
  have k1 := k x (by omega)
  have k2 := k u (by omega)
  have k3 := k y (by omega)
  have k4 := k v (by omega)
  omega
/-- a direction's greatest value over an area -/
theorem sup_facts {ps : List H3} {x y u v A B : Int} (F : AreaF ps x y u v) (hA : -10 ≤ A ∧ A ≤ 10) (hB : -10 ≤ B ∧ B ≤ 10) : ∃ (j : Nat) (N D : Int), j < ps.length ∧ supB A B ps = true ∧ supR A B ps = ((j : Int), N, D) ∧ N = vaN A B (crA ps j) ∧ D = vaD A B (crA ps j) ∧ okR N D = true ∧ (1 ≤ D ∧ D ≤ 18) ∧ (-40000 ≤ N ∧ N ≤ 40000) ∧
    (∀ X Y W : Int, 0 < W → (∀ e ∈ ps, Geo.val e X Y W ≤ 0) → (A * X + B * Y) * D ≤ N * W) ∧ ((A ≠ 0 ∨ B ≠ 0) → (A * (x + 1) + B * (y + 1)) * D < N) ∧ (A = 0 ∧ B = 0 → N = 0) := by
  have F' := F
  obtain ⟨r, n, _, q, st, sm, bx⟩ := F
  have iA : In5 A := ⟨by omega, by omega⟩
  have iB : In5 B := ⟨by omega, by omega⟩
  obtain ⟨s1, s2, s3, _⟩ := sup_of rfl r n (inB_of (x := A) (by omega) (by omega)) (inB_of (x := B) (by omega) (by omega))
  have hp : 0 < ps.length := List.length_pos_iff.2 n
  rcases far_ix A B ps ps.length with ⟨z, _⟩ | ⟨j, hj, e⟩
  · omega
  have ok : ∀ i, i < ps.length → okS (crA ps i).a (crA ps i).b (crA ps i).c = true := fun i hi => (cnr_facts r n hi).1
  have mx := far_max iA iB ok ps.length (Nat.le_refl _)
  have fj := va_facts iA iB (ok j hj)
  rw [e] at s2 s3 mx
  simp only at s2 s3 mx
  obtain ⟨⟨c1, c18⟩, ⟨xa, xb⟩, ya, yb⟩ := cor_bnd F' hj
  have sd := sgn_div (n := A * (crA ps j).a + B * (crA ps j).b) (d := (crA ps j).c) (by omega)
  have pr : ∀ a t : Int, (-10 ≤ a ∧ a ≤ 10) → (-1800 ≤ t ∧ t ≤ 1800) → -18000 ≤ a * t ∧ a * t ≤ 18000 := by
    intro a t ha ht
    rcases (by omega : a = -10 ∨ a = -9 ∨ a = -8 ∨ a = -7 ∨ a = -6 ∨ a = -5 ∨ a = -4 ∨ a = -3 ∨ a = -2 ∨ a = -1 ∨ a = 0 ∨ a = 1 ∨ a = 2 ∨ a = 3 ∨ a = 4 ∨ a = 5 ∨ a = 6 ∨ a = 7 ∨ a = 8 ∨ a = 9 ∨ a = 10) with rfl | rfl | rfl | rfl | rfl | rfl | rfl | rfl | rfl | rfl | rfl | rfl | rfl | rfl | rfl | rfl | rfl | rfl | rfl | rfl | rfl <;> omega
  have p1 := pr A _ hA (show -1800 ≤ (crA ps j).a ∧ (crA ps j).a ≤ 1800 by omega)
  have p2 := pr B _ hB (show -1800 ≤ (crA ps j).b ∧ (crA ps j).b ≤ 1800 by omega)
  have hg1 : (1 : Int) ≤ (Int.gcd (A * (crA ps j).a + B * (crA ps j).b) (crA ps j).c : Int) := by
    have := Nat.gcd_pos_of_pos_right (A * (crA ps j).a + B * (crA ps j).b).natAbs (show 0 < (crA ps j).c.natAbs by omega)
    unfold Int.gcd
    omega
  have hD18 : vaD A B (crA ps j) ≤ 18 := (div_in (M := 18) hg1 sd.2.2.2.2.symm (by omega) (by omega)).2
  have hN := div_in (M := 40000) hg1 sd.2.2.2.1.symm (by omega) (by omega)
  have all : ∀ X Y W : Int, 0 < W → (∀ e ∈ ps, Geo.val e X Y W ≤ 0) → (A ≠ 0 ∨ B ≠ 0) → (A * X + B * Y) * vaD A B (crA ps j) ≤ vaN A B (crA ps j) * W := by
    intro X Y W w k nz
    have hD := fj.2.2.2.1
    obtain ⟨P, _⟩ := rok_poly r n
    have nh : Geo.nz ⟨A * vaD A B (crA ps j), B * vaD A B (crA ps j), vaN A B (crA ps j)⟩ := by
      unfold Geo.nz
      rcases nz with h | h
      · exact .inl (Int.mul_ne_zero h (by omega))
      · exact .inr (Int.mul_ne_zero h (by omega))
    have hin := Geo.inside_of P nh (fun p hp => ?_) w k
    · unfold Geo.val at hin
      simp only at hin
      have : (A * X + B * Y) * vaD A B (crA ps j) = A * vaD A B (crA ps j) * X + B * vaD A B (crA ps j) * Y := by grind
      omega
    · obtain ⟨i, hi, rfl⟩ := cyc_ix hp
      obtain ⟨_, ci, _, _, _, kk, hkk, _, e2⟩ := cnr_facts r n hi
      rw [e2]
      refine Int.mul_nonpos_of_nonneg_of_nonpos (by omega) ?_
      have fi := va_facts iA iB (ok i hi)
      have m := mx i hi
      obtain ⟨_, _, v1, v2, _⟩ := fi
      unfold Geo.val
      simp only
      generalize vaN A B (crA ps i) = ni at *
      generalize vaD A B (crA ps i) = di at *
      generalize vaN A B (crA ps j) = N at *
      generalize vaD A B (crA ps j) = D at *
      generalize (crA ps i).a = X at *
      generalize (crA ps i).b = Y at *
      generalize (crA ps i).c = C at *
      have h1 : ni * D * C ≤ N * di * C := Int.mul_le_mul_of_nonneg_right m (by omega)
      have h2 : (A * D * X + B * D * Y - N * C) * di = ni * D * C - N * di * C := by
        have : ni * D * C = (A * X + B * Y) * di * D := by rw [← v1]; grind
        rw [this]
        grind
      refine (scale_le v2).1 ?_
      rw [h2]
      omega
  have zero : A = 0 ∧ B = 0 → vaN A B (crA ps j) = 0 := by
    rintro ⟨rfl, rfl⟩
    have := sd.2.2.2.1
    rw [show (0 : Int) * (crA ps j).a + 0 * (crA ps j).b = 0 by omega] at this
    unfold vaN
    rw [show (0 : Int) * (crA ps j).a + 0 * (crA ps j).b = 0 by omega]
    exact scale_z (g := (Int.gcd 0 (crA ps j).c : Int)) (by have := Nat.gcd_pos_of_pos_right (0 : Int).natAbs (show 0 < (crA ps j).c.natAbs by omega); unfold Int.gcd; omega) this
  refine ⟨j, vaN A B (crA ps j), vaD A B (crA ps j), hj, s1, s2, rfl, rfl, s3, ⟨fj.2.2.2.1, hD18⟩, ⟨hN.1, hN.2⟩, ?_, ?_, zero⟩
  · intro X Y W w k
    by_cases nz : A ≠ 0 ∨ B ≠ 0
    · exact all X Y W w k nz
    · have za : A = 0 := by omega
      have zb : B = 0 := by omega
      rw [zero ⟨za, zb⟩, za, zb]
      simp
  · intro nz
    obtain ⟨i, hi, j', hj', hs⟩ : ∃ i : Int, (-1 ≤ i ∧ i ≤ 1) ∧ ∃ j' : Int, (-1 ≤ j' ∧ j' ≤ 1) ∧ 1 ≤ A * i + B * j' := by
      rcases Int.lt_trichotomy A 0 with a | a | a
      · rcases Int.lt_trichotomy B 0 with b | b | b
        · exact ⟨-1, by omega, -1, by omega, by omega⟩
        · exact ⟨-1, by omega, 0, by omega, by omega⟩
        · exact ⟨-1, by omega, 1, by omega, by omega⟩
      · rcases Int.lt_trichotomy B 0 with b | b | b
        · exact ⟨0, by omega, -1, by omega, by omega⟩
        · omega
        · exact ⟨0, by omega, 1, by omega, by omega⟩
      · rcases Int.lt_trichotomy B 0 with b | b | b
        · exact ⟨1, by omega, -1, by omega, by omega⟩
        · exact ⟨1, by omega, 0, by omega, by omega⟩
        · exact ⟨1, by omega, 1, by omega, by omega⟩
    have h := all _ _ 10 (by omega) (near_in F' hi hj') nz
    have hD := fj.2.2.2.1
    generalize vaN A B (crA ps j) = N at *
    generalize vaD A B (crA ps j) = D at *
    have e1 : (A * (10 * (x + 1) + i) + B * (10 * (y + 1) + j')) * D = 10 * ((A * (x + 1) + B * (y + 1)) * D) + (A * i + B * j') * D := by grind
    rw [e1] at h
    have : 1 * 1 ≤ (A * i + B * j') * D := Int.mul_le_mul hs hD (by omega) (by omega)
    omega
theorem wid_facts {ps : List H3} {x y u v A B : Int} (F : AreaF ps x y u v) (hA : -10 ≤ A ∧ A ≤ 10) (hB : -10 ≤ B ∧ B ≤ 10) : wdB A B ps = true ∧ 0 ≤ wdN A B ps ∧ (wdN A B ps = 0 ↔ A = 0 ∧ B = 0) := by
  obtain ⟨j1, N1, D1, _, b1, r1, _, _, _, hD1, hN1, _, s1, z1⟩ := sup_facts F hA hB
  obtain ⟨j2, N2, D2, _, b2, r2, _, _, _, hD2, hN2, _, s2, z2⟩ := sup_facts F (A := -A) (B := -B) (by omega) (by omega)
  obtain ⟨w1, _, w3⟩ := wd_yes b1
  rw [r1, r2] at w1 w3
  simp only at w1 w3
  have mul : ∀ a b : Int, (-40000 ≤ a ∧ a ≤ 40000) → (1 ≤ b ∧ b ≤ 18) → a.natAbs * b.natAbs ≤ 40000 * 18 := fun a b ha hb => Nat.mul_le_mul (by omega) (by omega)
  have m1 := mul N1 D2 hN1 hD2
  have m2 := mul N2 D1 hN2 hD1
  have m3 := mul D1 D2 (by omega) hD2
  have c : smC N1 D1 N2 D2 = true := by
    unfold smC lpB lsB
    rw [← Int.natAbs_mul] at m1 m2 m3
    rw [← Int.natAbs_mul, ← Int.natAbs_mul, ← Int.natAbs_mul]
    simp only [Bool.and_eq_true, decide_eq_true_eq]
    omega
  obtain ⟨q1, _, q3⟩ := sm_yes c
  rw [← Int.natAbs_mul] at m1 m2 m3
  have dp : 1 ≤ D1 * D2 := lp_pos hD1.1 hD2.1
  have hR : hasR (N1 * D2 + N2 * D1) (D1 * D2) = true := by
    rw [hasR_iff]
    unfold topR botR
    have t1 := Nat.div_le_self (N1 * D2 + N2 * D1).natAbs (Int.gcd (N1 * D2 + N2 * D1) (D1 * D2))
    have t2 := Nat.div_le_self (D1 * D2).natAbs (Int.gcd (N1 * D2 + N2 * D1) (D1 * D2))
    omega
  have sd := sgn_div (n := N1 * D2 + N2 * D1) (d := D1 * D2) (by omega)
  have hg : (1 : Int) ≤ (Int.gcd (N1 * D2 + N2 * D1) (D1 * D2) : Int) := by
    have := Nat.gcd_pos_of_pos_right (N1 * D2 + N2 * D1).natAbs (show 0 < (D1 * D2).natAbs by omega)
    unfold Int.gcd
    omega
  have hw : wdN A B ps = sgnR (N1 * D2 + N2 * D1) (D1 * D2) := by
    rw [w1, q1]
    unfold ofN
    rw [if_pos hR]
  refine ⟨by rw [w3, q3, hR], ?_⟩
  rw [hw]
  by_cases nz : A ≠ 0 ∨ B ≠ 0
  · have a1 := s1 nz
    have a2 := s2 (by omega)
    have p1 := Int.mul_lt_mul_of_pos_right a1 (show 0 < D2 by omega)
    have p2 := Int.mul_lt_mul_of_pos_right a2 (show 0 < D1 by omega)
    have e : (-A * (x + 1) + -B * (y + 1)) * D2 * D1 = -((A * (x + 1) + B * (y + 1)) * D1 * D2) := by grind
    rw [e] at p2
    have pos : 0 < N1 * D2 + N2 * D1 := by omega
    generalize N1 * D2 + N2 * D1 = S at *
    generalize (Int.gcd S (D1 * D2) : Int) = g at *
    have hs := sd.2.2.2.1
    generalize sgnR S (D1 * D2) = s at *
    have : 0 < s := by
      rcases Int.lt_or_le 0 s with k | k
      · exact k
      · have := Int.mul_le_mul_of_nonneg_right k (show 0 ≤ g by omega); omega
    exact ⟨by omega, by constructor <;> intro h <;> omega⟩
  · have za : A = 0 := by omega
    have zb : B = 0 := by omega
    have n1 := z1 ⟨za, zb⟩
    have n2 := z2 ⟨by omega, by omega⟩
    have hs := sd.2.2.2.1
    have z : N1 * D2 + N2 * D1 = 0 := by rw [n1, n2]; simp
    rw [z] at hs hg ⊢
    have := scale_z hg hs
    rw [this]
    exact ⟨by omega, by constructor <;> intro h <;> omega⟩
end Go.Proofs.Ytfndkapjclhflaa
