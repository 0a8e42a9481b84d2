/- Plain facts on fractions: what is valid, how two are compared, and the greatest common divisor. -/
import Derived.Lib.Hide
namespace Go.Proofs.Ytkodoedkdgldnab

/-- the fraction n / d is valid -/
def okR (n d : Int) : Bool := decide (1 ≤ d) && decide (d ≤ 1000000000000000) && decide (-1000000000000000000 ≤ n) && decide (n ≤ 1000000000000000000) && decide (Int.gcd n d = 1)
theorem okR_iff (n d : Int) : okR n d = true ↔ 1 ≤ d ∧ d ≤ 1000000000000000 ∧ -1000000000000000000 ≤ n ∧ n ≤ 1000000000000000000 ∧ Int.gcd n d = 1 := by
  unfold okR; simp [and_assoc]

/-- a / b against c / d -/
def cmpR (a b c d : Int) : Int := if a * d < c * b then -1 else if c * b < a * d then 1 else 0
theorem cmpR_bounds (a b c d : Int) : -1 ≤ cmpR a b c d ∧ cmpR a b c d ≤ 1 := by
  unfold cmpR; split <;> (try split) <;> omega
theorem cmpR_swap (a b c d : Int) : cmpR c d a b = -cmpR a b c d := by
  unfold cmpR
  by_cases h1 : a * d < c * b
  · rw [if_pos h1, if_neg (by omega), if_pos h1]; rfl
  · by_cases h2 : c * b < a * d
    · rw [if_pos h2, if_neg h1, if_pos h2]
    · rw [if_neg h2, if_neg h1, if_neg h1, if_neg h2]; rfl
theorem cmpR_turn (a b c d : Int) : cmpR d c b a = cmpR a b c d := by
  unfold cmpR
  rw [Int.mul_comm d a, Int.mul_comm b c]
theorem cmpR_turn2 (a b c d : Int) : cmpR b a d c = -cmpR a b c d := by
  rw [cmpR_turn c d a b, cmpR_swap]
theorem cmpR_less (a b c d : Int) (hb : 0 < b) (hd : 0 < d) (h : a / b < c / d) : cmpR a b c d = -1 := by
  have h1 : a < b * (a / b + 1) := by
    have := Int.mul_ediv_add_emod a b
    have := Int.emod_lt_of_pos a hb
    rw [Int.mul_add]; omega
  have h2 : d * (c / d) ≤ c := by
    have := Int.mul_ediv_add_emod c d
    have := Int.emod_nonneg c (by omega : d ≠ 0)
    omega
  have h3 : b * (a / b + 1) ≤ b * (c / d) := Int.mul_le_mul_of_nonneg_left (by omega) (by omega)
  have h4 : a * d < b * (c / d) * d := Int.mul_lt_mul_of_pos_right (by omega) hd
  have h5 : d * (c / d) * b ≤ c * b := Int.mul_le_mul_of_nonneg_right h2 (by omega)
  have h6 : d * (c / d) * b = b * (c / d) * d := by
    rw [Int.mul_comm (d * (c / d)) b, ← Int.mul_assoc, Int.mul_comm b d, Int.mul_assoc, Int.mul_comm d]
  unfold cmpR
  rw [if_pos (by omega)]
theorem cmpR_more (a b c d : Int) (hb : 0 < b) (hd : 0 < d) (h : c / d < a / b) : cmpR a b c d = 1 := by
  have := cmpR_less c d a b hd hb h
  rw [cmpR_swap] at this
  omega
theorem cmpR_rest (a b c d p : Int) : cmpR (a - p * b) b (c - p * d) d = cmpR a b c d := by
  unfold cmpR
  have e : p * b * d = p * d * b := by rw [Int.mul_assoc, Int.mul_comm b d, Int.mul_assoc]
  rw [Int.sub_mul, Int.sub_mul, e]
  by_cases h1 : a * d < c * b
  · rw [if_pos h1, if_pos (by omega)]
  · rw [if_neg h1, if_neg (by omega)]
    by_cases h2 : c * b < a * d
    · rw [if_pos h2, if_pos (by omega)]
    · rw [if_neg h2, if_neg (by omega)]
theorem cmpR_zz (b d : Int) : cmpR 0 b 0 d = 0 := by unfold cmpR; simp
theorem cmpR_z (b c d : Int) (hb : 0 < b) (hc : 0 < c) : cmpR 0 b c d = -1 := by
  have := Int.mul_pos hc hb
  unfold cmpR; rw [if_pos (by omega)]
theorem cmpR_z2 (a b d : Int) (hd : 0 < d) (ha : 0 < a) : cmpR a b 0 d = 1 := by
  have := Int.mul_pos ha hd
  unfold cmpR; rw [if_neg (by omega), if_pos (by omega)]

/-- rounded down -/
theorem floor_pos (a b : Int) (hb : 0 < b) (h : ¬ a.tmod b < 0) : a.tdiv b = a / b := by
  have e := Int.mul_tdiv_add_tmod a b
  have h1 : a.tmod b < b := Int.tmod_lt_of_pos a hb
  exact ((Int.ediv_emod_unique hb).2 ⟨by omega, by omega, h1⟩).1.symm
theorem floor_neg (a b : Int) (hb : 0 < b) (h : a.tmod b < 0) : a.tdiv b - 1 = a / b := by
  have e := Int.mul_tdiv_add_tmod a b
  have h1 : -b < a.tmod b := by
    have := Int.lt_tmod_of_pos a hb
    omega
  refine ((Int.ediv_emod_unique (r := a.tmod b + b) hb).2 ⟨?_, by omega, by omega⟩).1.symm
  rw [Int.mul_sub]; omega
theorem floor_range (a b : Int) (hb : 0 < b) (ha : -1000000000000000000 ≤ a) (ha2 : a ≤ 1000000000000000000) : -1000000000000000000 ≤ a / b ∧ a / b ≤ 1000000000000000000 := by
  constructor
  · apply Int.le_ediv_of_mul_le hb
    have : 1000000000000000000 * 1 ≤ 1000000000000000000 * b := Int.mul_le_mul_of_nonneg_left (by omega) (by omega)
    omega
  · have : a / b < 1000000000000000000 + 1 := by
      apply Int.ediv_lt_of_lt_mul hb
      have : (1000000000000000000 + 1) * 1 ≤ (1000000000000000000 + 1) * b := Int.mul_le_mul_of_nonneg_left (by omega) (by omega)
      omega
    omega
theorem rest_eq (a b : Int) : a - a / b * b = a % b := by
  have := Int.mul_ediv_add_emod a b
  rw [Int.mul_comm]; omega
theorem ceil_eq (a b : Int) (hb : 0 < b) : ∀ q, q = -((-a) / b) → a ≤ q * b ∧ (q - 1) * b < a := by
  rintro q rfl
  have e := Int.mul_ediv_add_emod (-a) b
  have h0 := Int.emod_nonneg (-a) (by omega : b ≠ 0)
  have h1 := Int.emod_lt_of_pos (-a) hb
  rw [Int.sub_mul, Int.neg_mul, Int.mul_comm]
  omega

/-- n / d reduced: the numerator's and the denominator's magnitude, and the numerator with its sign -/
def topR (n d : Int) : Nat := n.natAbs / Int.gcd n d
def botR (n d : Int) : Nat := d.natAbs / Int.gcd n d
def sgnR (n d : Int) : Int := if decide (n < 0) != decide (d < 0) then -(topR n d : Int) else topR n d
/-- there is a valid fraction with the value n / d -/
def hasR (n d : Int) : Bool := decide (d ≠ 0) && decide (topR n d ≤ 1000000000000000000) && decide (botR n d ≤ 1000000000000000)
theorem hasR_iff (n d : Int) : hasR n d = true ↔ d ≠ 0 ∧ topR n d ≤ 1000000000000000000 ∧ botR n d ≤ 1000000000000000 := by
  unfold hasR; simp [and_assoc]
theorem sgn_abs (n d : Int) : (sgnR n d).natAbs = topR n d := by
  unfold sgnR; split <;> omega
theorem red_gcd (n d : Int) (h : d ≠ 0) : Int.gcd (sgnR n d) (botR n d) = 1 := by
  show Nat.gcd (sgnR n d).natAbs (botR n d) = 1
  rw [sgn_abs]
  exact Nat.gcd_div_gcd_div_gcd_of_pos_right (by omega)
theorem bot_pos (n d : Int) (h : d ≠ 0) : 1 ≤ botR n d := Nat.div_gcd_pos_of_pos_right _ (by omega)
theorem okR_of (n d : Int) (h : hasR n d = true) : okR (sgnR n d) (botR n d) = true := by
  obtain ⟨h0, h1, h2⟩ := (hasR_iff n d).1 h
  have h3 := bot_pos n d h0
  have h4 := sgn_abs n d
  exact (okR_iff _ _).2 ⟨by omega, by omega, by omega, by omega, red_gcd n d h0⟩
theorem gcd_scaled (k N D : Int) (h : Int.gcd N D = 1) : Int.gcd (k * N) (k * D) = k.natAbs := by
  show Nat.gcd (k * N).natAbs (k * D).natAbs = k.natAbs
  rw [Int.natAbs_mul, Int.natAbs_mul, Nat.gcd_mul_left]
  have : Nat.gcd N.natAbs D.natAbs = 1 := h
  rw [this, Nat.mul_one]
theorem scaled (k N D : Int) (hk : k ≠ 0) (h : okR N D = true) : topR (k * N) (k * D) = N.natAbs ∧ (botR (k * N) (k * D) : Int) = D ∧ sgnR (k * N) (k * D) = N ∧ hasR (k * N) (k * D) = true := by
  obtain ⟨h1, h2, h3, h4, h5⟩ := (okR_iff _ _).1 h
  have hk2 : 0 < k.natAbs := by omega
  have ht : topR (k * N) (k * D) = N.natAbs := by
    unfold topR; rw [gcd_scaled k N D h5, Int.natAbs_mul, Nat.mul_div_cancel_left _ hk2]
  have hb : botR (k * N) (k * D) = D.natAbs := by
    unfold botR; rw [gcd_scaled k N D h5, Int.natAbs_mul, Nat.mul_div_cancel_left _ hk2]
  have hs : sgnR (k * N) (k * D) = N := by
    unfold sgnR
    rw [ht]
    by_cases hp : 0 < k
    · have e1 : decide (k * D < 0) = false := by
        have := Int.mul_pos hp (by omega : 0 < D)
        simp; omega
      rw [e1]
      by_cases hn : N < 0
      · have e2 : k * N < 0 := Int.mul_neg_of_pos_of_neg hp hn
        rw [decide_eq_true e2]; simp; omega
      · have e2 : ¬ k * N < 0 := by
          have := Int.mul_nonneg (by omega : 0 ≤ k) (by omega : 0 ≤ N)
          omega
        rw [decide_eq_false e2]; simp; omega
    · have hm : k < 0 := by omega
      have e1 : decide (k * D < 0) = true := by
        have := Int.mul_neg_of_neg_of_pos hm (by omega : 0 < D)
        simpa using this
      rw [e1]
      by_cases hn : 0 < N
      · have e2 : k * N < 0 := Int.mul_neg_of_neg_of_pos hm hn
        rw [decide_eq_true e2]; simp; omega
      · have e2 : ¬ k * N < 0 := by
          have := Int.mul_nonneg_of_nonpos_of_nonpos (by omega : k ≤ 0) (by omega : N ≤ 0)
          omega
        rw [decide_eq_false e2]; simp; omega
  refine ⟨ht, by rw [hb]; omega, hs, (hasR_iff _ _).2 ⟨?_, by rw [ht]; omega, by rw [hb]; omega⟩⟩
  intro e
  rcases Int.mul_eq_zero.1 e with e | e <;> omega
theorem top_le (n d : Int) : topR n d ≤ n.natAbs := Nat.div_le_self _ _
theorem bot_le (n d : Int) : botR n d ≤ d.natAbs := Nat.div_le_self _ _
theorem gcd_step (x y : Nat) : Nat.gcd y (x % y) = Nat.gcd x y := by
  rw [Nat.gcd_comm y, ← Nat.gcd_rec, Nat.gcd_comm]
theorem gcd_le64 (a b : Int) (ha : -9223372036854775808 ≤ a) (ha2 : a ≤ 9223372036854775807) (hb : -9223372036854775808 ≤ b) (hb2 : b ≤ 9223372036854775807) : Int.gcd a b ≤ 9223372036854775808 := by
  show Nat.gcd a.natAbs b.natAbs ≤ _
  by_cases h : 0 < a.natAbs
  · have := Nat.gcd_le_left b.natAbs h; omega
  · have : a.natAbs = 0 := by omega
    rw [this, Nat.gcd_zero_left]; omega
end Go.Proofs.Ytkodoedkdgldnab
