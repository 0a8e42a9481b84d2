/- Plain facts on small spots. -/
import Derived.Test.YtbdehelcpfkcmaaDoorLcm
namespace Go.Proofs.YtbdehelcpfkcmaaDoor

/-- divided by what divides all three, a spot is in lowest terms -/
theorem red_low {x y d X Y D : Int} (hd : 1 ≤ d) (hx : x = X * (gS x y d : Int)) (hy : y = Y * (gS x y d : Int)) (hD : d = D * (gS x y d : Int)) : gS X Y D = 1 := by
  have hg := gS_pos x y d hd
  refine gS_one fun k k1 k2 k3 => ?_
  have key : ∀ u U : Int, u = U * (gS x y d : Int) → (k : Int) ∣ U → ((k : Int) * (gS x y d : Int)) ∣ u := by
    rintro u U hu ⟨t, rfl⟩
    exact ⟨t, by rw [hu, Int.mul_assoc, Int.mul_assoc, Int.mul_comm t]⟩
  have h := dvd_gS (key x X hx k1) (key y Y hy k2) (key d D hD k3)
  generalize gS x y d = g at *
  have h' : k * g ∣ 1 * g := by
    rw [Nat.one_mul]
    exact Int.natCast_dvd_natCast.1 (by simpa using h)
  exact Nat.dvd_one.1 (Nat.dvd_of_mul_dvd_mul_right (by omega) h')
theorem mul_pos_of {D g d : Int} (hg : 1 ≤ g) (hd : 1 ≤ d) (h : d = D * g) : 1 ≤ D ∧ D ≤ d := by
  have h1 : 1 ≤ D := by
    rcases Int.lt_or_le D 1 with k | k
    · have : D * g ≤ 0 := Int.mul_nonpos_of_nonpos_of_nonneg (by omega) (by omega)
      omega
    · exact k
  have : D * 1 ≤ D * g := Int.mul_le_mul_of_nonneg_left hg (by omega)
  omega
/-- where the coordinates are within the limits there is a valid spot -/
theorem has_spot {x y d : Int} (h1 : 1 ≤ d) (h2 : d ≤ 5000000000) (hx : -(1000 * d) ≤ x) (hx2 : x ≤ 1000 * d) (hy : -(1000 * d) ≤ y) (hy2 : y ≤ 1000 * d) :
    ∃ X Y D g : Int, ansS x y d = spotS X Y D ∧ okS X Y D = true ∧ 1 ≤ g ∧ x = X * g ∧ y = Y * g ∧ d = D * g := by
  have hg : (1 : Int) ≤ (gS x y d : Int) := by have := gS_pos x y d h1; omega
  have ex : x = x.tdiv (gS x y d) * (gS x y d : Int) := (Int.tdiv_mul_cancel (gS_dvd_x x y d)).symm
  have ey : y = y.tdiv (gS x y d) * (gS x y d : Int) := (Int.tdiv_mul_cancel (gS_dvd_y x y d)).symm
  have ed : d = d.tdiv (gS x y d) * (gS x y d : Int) := (Int.tdiv_mul_cancel (gS_dvd_d x y d)).symm
  have hl := red_low h1 ex ey ed
  have hA := fun (h : hasS x y d = true) => ansS_yes h
  rw [hasS_of h1] at hA
  generalize hG : (gS x y d : Int) = g at *
  generalize x.tdiv g = X at *
  generalize y.tdiv g = Y at *
  generalize d.tdiv g = D at *
  obtain ⟨hD, hD2⟩ := mul_pos_of hg h1 ed
  have lim : ∀ u U : Int, u = U * g → -(1000 * d) ≤ u → u ≤ 1000 * d → -(1000 * D) ≤ U ∧ U ≤ 1000 * D := by
    intro u U hu k1 k2
    rw [hu, ed] at k1 k2
    constructor
    · have : -(1000 * D) * g ≤ U * g := by rw [Int.neg_mul, Int.mul_assoc]; exact k1
      exact Int.le_of_mul_le_mul_right this (by omega)
    · have : U * g ≤ 1000 * D * g := by rw [Int.mul_assoc]; exact k2
      exact Int.le_of_mul_le_mul_right this (by omega)
  obtain ⟨l1, l2⟩ := lim x X ex hx hx2
  obtain ⟨l3, l4⟩ := lim y Y ey hy hy2
  have hok : okS X Y D = true := (okS_iff _ _ _).2 ⟨hD, by omega, l1, l2, l3, l4, hl⟩
  exact ⟨X, Y, D, g, hA hok, hok, hg, ex, ey, ed⟩
/-- a valid spot, small -/
def SmallS (X Y D : Int) : Prop := okS X Y D = true ∧ -200 ≤ X ∧ X ≤ 200 ∧ -200 ≤ Y ∧ Y ≤ 200 ∧ 1 ≤ D ∧ D ≤ 10
theorem small_div {x X g : Int} (hg : 1 ≤ g) (h : x = X * g) (h1 : -200 ≤ x) (h2 : x ≤ 200) : -200 ≤ X ∧ X ≤ 200 := by
  rcases Int.lt_or_le X 0 with k | k
  · have : X * g ≤ X * 1 := Int.mul_le_mul_of_nonpos_left (by omega) hg
    omega
  · have : X * 1 ≤ X * g := Int.mul_le_mul_of_nonneg_left hg k
    omega
theorem small_spot (x y d : Int) (hx : -200 ≤ x) (hx2 : x ≤ 199) (hy : -200 ≤ y) (hy2 : y ≤ 199) (hd : 1 ≤ d) (hd2 : d ≤ 10) : ∃ X Y D : Int, ansS x y d = spotS X Y D ∧ SmallS X Y D := by
  obtain ⟨X, Y, D, g, hA, hok, hg, ex, ey, ed⟩ := has_spot (x := x) (y := y) hd (by omega) (by omega) (by omega) (by omega) (by omega)
  obtain ⟨x1, x2⟩ := small_div hg ex hx (by omega)
  obtain ⟨y1, y2⟩ := small_div hg ey hy (by omega)
  obtain ⟨d1, d2⟩ := mul_pos_of hg hd ed
  exact ⟨X, Y, D, hA, hok, x1, x2, y1, y2, d1, by omega⟩
theorem small_prod {a d : Int} (h0 : -200 ≤ a) (h1 : a ≤ 200) (h2 : 1 ≤ d) (h3 : d ≤ 10) : -2000 ≤ a * d ∧ a * d ≤ 2000 := by
  have a1 : a * d ≤ 200 * d := Int.mul_le_mul_of_nonneg_right h1 (by omega)
  have a2 : (-200) * d ≤ a * d := Int.mul_le_mul_of_nonneg_right h0 (by omega)
  omega
/-- a small spot moved by at most 50 is valid -/
theorem shift_small {a b c k l : Int} (h : SmallS a b c) (k0 : -50 ≤ k) (k1 : k ≤ 50) (l0 : -50 ≤ l) (l1 : l ≤ 50) : okS (a + k * c) (b + l * c) c = true ∧ -500 ≤ k * c ∧ k * c ≤ 500 ∧ -500 ≤ l * c ∧ l * c ≤ 500 := by
  obtain ⟨hok, a0, a1, b0, b1, c0, c1⟩ := h
  have m : ∀ j : Int, -50 ≤ j → j ≤ 50 → -(50 * c) ≤ j * c ∧ j * c ≤ 50 * c := by
    intro j h1 h2
    have e1 : j * c ≤ 50 * c := Int.mul_le_mul_of_nonneg_right h2 (by omega)
    have e2 : (-50) * c ≤ j * c := Int.mul_le_mul_of_nonneg_right h1 (by omega)
    omega
  have m1 := m k k0 k1
  have m2 := m l l0 l1
  have hg := gS_move a b c k l ((okS_iff _ _ _).1 hok).2.2.2.2.2.2
  refine ⟨(okS_iff _ _ _).2 ⟨c0, by omega, by omega, by omega, by omega, by omega, hg⟩, ?_⟩
  omega
/-- the middle of two small spots -/
theorem half_small {a b c x y d : Int} (h : SmallS a b c) (h' : SmallS x y d) : ∃ X Y D : Int, ansS (a * d + x * c) (b * d + y * c) (2 * c * d) = spotS X Y D ∧ okS X Y D = true ∧ 1 ≤ D ∧ D ≤ 200 ∧ -200000 ≤ X ∧ X ≤ 200000 ∧ -200000 ≤ Y ∧ Y ≤ 200000 ∧ 2 * X * c * d = (a * d + x * c) * D ∧ 2 * Y * c * d = (b * d + y * c) * D := by
  obtain ⟨hok, a0, a1, b0, b1, c0, c1⟩ := h
  obtain ⟨hok', x0, x1, y0, y1, d0, d1⟩ := h'
  have m1 := small_prod a0 a1 d0 d1
  have m2 := small_prod x0 x1 c0 c1
  have m3 := small_prod b0 b1 d0 d1
  have m4 := small_prod y0 y1 c0 c1
  have e0 : 1 * 1 ≤ c * d := Int.mul_le_mul c0 d0 (by omega) (by omega)
  have e1 : c * d ≤ 10 * 10 := Int.mul_le_mul c1 d1 (by omega) (by omega)
  have eU : 2 * c * d = 2 * (c * d) := Int.mul_assoc 2 c d
  have lim : ∀ u v : Int, -200 ≤ u → u ≤ 200 → 1 ≤ v → v ≤ 10 → ∀ t, 1 ≤ t → t ≤ 10 → -(200 * (t * v)) ≤ u * v ∧ u * v ≤ 200 * (t * v) := by
    intro u v h1 h2 h3 h4 t h5 h6
    have k1 : u * v ≤ 200 * v := Int.mul_le_mul_of_nonneg_right h2 (by omega)
    have k2 : (-200) * v ≤ u * v := Int.mul_le_mul_of_nonneg_right h1 (by omega)
    have k3 : 1 * v ≤ t * v := Int.mul_le_mul_of_nonneg_right h5 (by omega)
    omega
  have l1 := lim a d a0 a1 d0 d1 c c0 c1
  have l2 := lim x c x0 x1 c0 c1 d d0 d1
  have l3 := lim b d b0 b1 d0 d1 c c0 c1
  have l4 := lim y c y0 y1 c0 c1 d d0 d1
  rw [Int.mul_comm d c] at l2 l4
  obtain ⟨X, Y, D, g, hA, hk, hg, ex, ey, ed⟩ := has_spot (x := a * d + x * c) (y := b * d + y * c) (d := 2 * c * d) (by omega) (by omega) (by omega) (by omega) (by omega) (by omega)
  obtain ⟨q1, q2⟩ := mul_pos_of hg (by omega) ed
  obtain ⟨_, _, s3, s4, s5, s6, _⟩ := (okS_iff _ _ _).1 hk
  refine ⟨X, Y, D, hA, hk, q1, by omega, by omega, by omega, by omega, by omega, ?_, ?_⟩
  · calc 2 * X * c * d = X * (2 * c * d) := by rw [Int.mul_comm 2 X, Int.mul_assoc, Int.mul_assoc, Int.mul_assoc]
      _ = X * (D * g) := by rw [ed]
      _ = (X * g) * D := by rw [Int.mul_comm D g, Int.mul_assoc]
      _ = (a * d + x * c) * D := by rw [ex]
  · calc 2 * Y * c * d = Y * (2 * c * d) := by rw [Int.mul_comm 2 Y, Int.mul_assoc, Int.mul_assoc, Int.mul_assoc]
      _ = Y * (D * g) := by rw [ed]
      _ = (Y * g) * D := by rw [Int.mul_comm D g, Int.mul_assoc]
      _ = (b * d + y * c) * D := by rw [ey]
/-- five times as wide, the same spot -/
theorem five_small {a b c : Int} (h : SmallS a b c) : ansS (5 * a) (5 * b) (5 * c) = spotS a b c := by
  obtain ⟨hok, a0, a1, b0, b1, c0, c1⟩ := h
  have h7 := ((okS_iff _ _ _).1 hok).2.2.2.2.2.2
  have hg : gS (5 * a) (5 * b) (5 * c) = 5 := by
    unfold gS
    show Nat.gcd (Int.natAbs ((Nat.gcd (5 * a).natAbs (5 * b).natAbs : Nat) : Int)) (5 * c).natAbs = 5
    rw [Int.natAbs_mul, Int.natAbs_mul, Int.natAbs_mul, Nat.gcd_mul_left, Int.natAbs_natCast]
    have : (Int.natAbs 5) = 5 := rfl
    rw [this, Nat.gcd_mul_left]
    have h8 : Nat.gcd (Nat.gcd a.natAbs b.natAbs) c.natAbs = 1 := h7
    rw [h8]
  rw [ansS_if (X := a) (Y := b) (D := c) (g := 5) (by rw [hg]; rfl) (by omega) (Int.mul_tdiv_cancel_left _ (by omega)) (Int.mul_tdiv_cancel_left _ (by omega)) (Int.mul_tdiv_cancel_left _ (by omega)), hok]
  rfl
theorem lc_dvd {A B c p : Int} (u1 : 1 ≤ A) (u2 : 1 ≤ B) (h1 : p * A = c) (h2 : B ∣ c) : ∃ m : Int, c = lc A B * m := by
  obtain ⟨_, _, _, e5, _, _, _, _, hg, _, _, _⟩ := lc_facts u1 u2
  have f3 : (Int.gcd A B : Int) * wb A B = A := Int.mul_ediv_cancel' (Int.gcd_dvd_left ..)
  have f4 : (Int.gcd A B : Int) * wa A B = B := Int.mul_ediv_cancel' (Int.gcd_dvd_right ..)
  obtain ⟨t, ht⟩ := h2
  have k : (Int.gcd A B : Int) * (wb A B * p) = (Int.gcd A B : Int) * (wa A B * t) := by
    rw [← Int.mul_assoc, ← Int.mul_assoc, f3, f4, ← ht, Int.mul_comm]; exact h1
  have k2 := Int.eq_of_mul_eq_mul_left (by omega) k
  obtain ⟨m, hm⟩ := cop_dvd (⟨t, k2⟩ : wa A B ∣ wb A B * p) e5
  refine ⟨m, ?_⟩
  unfold lc
  rw [Int.mul_assoc, ← hm, Int.mul_comm]
  exact h1.symm
/-- the text of a valid spot is read as the spot -/
theorem back_spot {a b c : Int} (hok : okS a b c = true) : parS (sgnR a c) (botR a c) (sgnR b c) (botR b c) = spotS a b c ∧ okR (sgnR a c) (botR a c) = true ∧ okR (sgnR b c) (botR b c) = true := by
  obtain ⟨c0, c1, a0, a1, b0, b1, h7⟩ := (okS_iff _ _ _).1 hok
  have hA := okR_of a c (has_of_ok c0 c1 (by omega) (by omega))
  have hB := okR_of b c (has_of_ok c0 c1 (by omega) (by omega))
  refine ⟨?_, hA, hB⟩
  obtain ⟨u1, _, _, _, _⟩ := (okR_iff _ _).1 hA
  obtain ⟨u2, _, _, _, _⟩ := (okR_iff _ _).1 hB
  obtain ⟨ha, hb, _, _, _, _, e6, e7, _, _, _, _⟩ := lc_facts u1 u2
  have f1 : (Int.gcd a c : Int) * sgnR a c = a ∧ (Int.gcd a c : Int) * (botR a c : Int) = c := by
    obtain ⟨_, s2, s3⟩ := sgn_div (n := a) c0
    rw [← s2, ← s3]
    exact ⟨Int.mul_ediv_cancel' (Int.gcd_dvd_left ..), Int.mul_ediv_cancel' (Int.gcd_dvd_right ..)⟩
  have f2 : (Int.gcd b c : Int) * sgnR b c = b ∧ (Int.gcd b c : Int) * (botR b c : Int) = c := by
    obtain ⟨_, s2, s3⟩ := sgn_div (n := b) c0
    rw [← s2, ← s3]
    exact ⟨Int.mul_ediv_cancel' (Int.gcd_dvd_left ..), Int.mul_ediv_cancel' (Int.gcd_dvd_right ..)⟩
  have hL := lc_dvd u1 u2 f1.2 (show (botR b c : Int) ∣ c from ⟨_, by rw [Int.mul_comm]; exact f2.2.symm⟩)
  obtain ⟨m, hm⟩ := hL
  have hL1 : 1 ≤ lc (botR a c) (botR b c) := by
    rw [← e7]
    have : 1 * 1 ≤ wa (botR a c) (botR b c) * (botR a c : Int) := Int.mul_le_mul ha u1 (by omega) (by omega)
    omega
  have hm1 : 1 ≤ m := by
    rcases Int.lt_or_le m 1 with k | k
    · have : lc (botR a c) (botR b c) * m ≤ 0 := Int.mul_nonpos_of_nonneg_of_nonpos (by omega) (by omega)
      omega
    · exact k
  have wide : ∀ (n N B W : Int) (p : Int), p * N = n → p * B = c → W * B = lc (botR a c) (botR b c) → 1 ≤ B → n = N * W * m := by
    intro n N B W p h1 h2 h3 hB1
    have e : p = W * m := by
      have : B * p = B * (W * m) := by
        rw [Int.mul_comm B p, h2, hm, ← h3, Int.mul_comm W B, Int.mul_assoc]
      exact Int.eq_of_mul_eq_mul_left (by omega) this
    rw [← h1, e, Int.mul_comm, Int.mul_assoc]
  have wx := wide a (sgnR a c) (botR a c) (wa (botR a c) (botR b c)) _ f1.1 f1.2 e7 u1
  have wy := wide b (sgnR b c) (botR b c) (wb (botR a c) (botR b c)) _ f2.1 f2.2 e6 u2
  have hm2 : m = 1 := by
    obtain ⟨k, rfl⟩ : ∃ k : Nat, m = (k : Int) := ⟨m.toNat, by omega⟩
    have := of_gS_one h7 k ⟨_, by rw [Int.mul_comm (k : Int)]; exact wx⟩ ⟨_, by rw [Int.mul_comm (k : Int)]; exact wy⟩ ⟨_, by rw [Int.mul_comm (k : Int)]; exact hm⟩
    rw [this]; rfl
  rw [hm2, Int.mul_one] at hm wx wy
  have hle : ∀ n N W B : Int, n = N * W → W * B = c → 1 ≤ W → -(1000 * c) ≤ n → n ≤ 1000 * c → -(1000 * B) ≤ N ∧ N ≤ 1000 * B := by
    intro n N W B h1 h2 h3 h4 h5
    rw [h1, ← h2] at h4 h5
    constructor
    · have : -(1000 * B) * W ≤ N * W := by rw [Int.neg_mul, Int.mul_assoc, Int.mul_comm B W]; exact h4
      exact Int.le_of_mul_le_mul_right this (by omega)
    · have : N * W ≤ 1000 * B * W := by rw [Int.mul_assoc, Int.mul_comm B W]; exact h5
      exact Int.le_of_mul_le_mul_right this (by omega)
  have n1 := hle a _ _ (botR a c) wx (by rw [e7, ← hm]) ha a0 a1
  have n2 := hle b _ _ (botR b c) wy (by rw [e6, ← hm]) hb b0 b1
  have r1 := red_in (n := a) c0 c1 (by omega) (by omega)
  have r2 := red_in (n := b) c0 c1 (by omega) (by omega)
  have hf : fitB (sgnR a c) (botR a c) (sgnR b c) (botR b c) = true := (fitB_iff _ _ _ _).2 ⟨r1.2.2.2, r2.2.2.2, by omega, n1.1, n1.2, n2.1, n2.2⟩
  unfold parS
  rw [if_pos hf, ← wx, ← wy, ← hm]
end Go.Proofs.YtbdehelcpfkcmaaDoor
