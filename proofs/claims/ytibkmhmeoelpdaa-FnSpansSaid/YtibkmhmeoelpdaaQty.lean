/- Plain facts on fractions: what is valid, how two are compared, and the greatest common divisor. The contracts of both GcdOf functions over the translation, and the walk of their law. The contracts of both RatioOk functions over the translation, and the walk of their law. The contracts of the functions that round, over the translation, and the walks of their laws. The contract of the model's RatioCmp over the translation. Plain facts on spots: what is valid, and a spot in lowest terms. -/
import Derived.Lib.Hide
import Derived.Test.YtibkmhmeoelpdaaProg
import Derived.WalkKit
import Derived.WalkLawsBesides
import Derived.Laws.RangeAny
import Derived.Below
import Derived.OpenShut
import Derived.BigQuiet
import Derived.Deep.QuietTactic
namespace Go.Proofs.Ytibkmhmeoelpdaa
open Go.RowKit

/-- the fraction n / d is valid -/
def okR (n d : Int) : Bool := decide (1 ≤ d) && decide (d ≤ 1000000000000000) && decide (-1000000000000000000 ≤ n) && decide (n ≤ 1000000000000000000) && decide (Int.gcd n d = 1)
theorem okR_iff (n d : Int) : okR n d = true ↔ 1 ≤ d ∧ d ≤ 1000000000000000 ∧ -1000000000000000000 ≤ n ∧ n ≤ 1000000000000000000 ∧ Int.gcd n d = 1 := by
  unfold okR; simp [and_assoc]

/-- a / b against c / d -/
def cmpR (a b c d : Int) : Int := if a * d < c * b then -1 else if c * b < a * d then 1 else 0
theorem cmpR_bounds (a b c d : Int) : -1 ≤ cmpR a b c d ∧ cmpR a b c d ≤ 1 := by
  unfold cmpR; split <;> (try split) <;> omega
theorem cmpR_swap (a b c d : Int) : cmpR c d a b = -cmpR a b c d := by
  unfold cmpR
  by_cases h1 : a * d < c * b
  · rw [if_pos h1, if_neg (by omega), if_pos h1]; rfl
  · by_cases h2 : c * b < a * d
    · rw [if_pos h2, if_neg h1, if_pos h2]
    · rw [if_neg h2, if_neg h1, if_neg h1, if_neg h2]; rfl
theorem cmpR_turn (a b c d : Int) : cmpR d c b a = cmpR a b c d := by
  unfold cmpR
  rw [Int.mul_comm d a, Int.mul_comm b c]
theorem cmpR_turn2 (a b c d : Int) : cmpR b a d c = -cmpR a b c d := by
  rw [cmpR_turn c d a b, cmpR_swap]
theorem cmpR_less (a b c d : Int) (hb : 0 < b) (hd : 0 < d) (h : a / b < c / d) : cmpR a b c d = -1 := by
  have h1 : a < b * (a / b + 1) := by
    have := Int.mul_ediv_add_emod a b
    have := Int.emod_lt_of_pos a hb
    rw [Int.mul_add]; omega
  have h2 : d * (c / d) ≤ c := by
    have := Int.mul_ediv_add_emod c d
    have := Int.emod_nonneg c (by omega : d ≠ 0)
    omega
  have h3 : b * (a / b + 1) ≤ b * (c / d) := Int.mul_le_mul_of_nonneg_left (by omega) (by omega)
  have h4 : a * d < b * (c / d) * d := Int.mul_lt_mul_of_pos_right (by omega) hd
  have h5 : d * (c / d) * b ≤ c * b := Int.mul_le_mul_of_nonneg_right h2 (by omega)
  have h6 : d * (c / d) * b = b * (c / d) * d := by
    rw [Int.mul_comm (d * (c / d)) b, ← Int.mul_assoc, Int.mul_comm b d, Int.mul_assoc, Int.mul_comm d]
  unfold cmpR
  rw [if_pos (by omega)]
theorem cmpR_more (a b c d : Int) (hb : 0 < b) (hd : 0 < d) (h : c / d < a / b) : cmpR a b c d = 1 := by
  have := cmpR_less c d a b hd hb h
  rw [cmpR_swap] at this
  omega
theorem cmpR_rest (a b c d p : Int) : cmpR (a - p * b) b (c - p * d) d = cmpR a b c d := by
  unfold cmpR
  have e : p * b * d = p * d * b := by rw [Int.mul_assoc, Int.mul_comm b d, Int.mul_assoc]
  rw [Int.sub_mul, Int.sub_mul, e]
  by_cases h1 : a * d < c * b
  · rw [if_pos h1, if_pos (by omega)]
  · rw [if_neg h1, if_neg (by omega)]
    by_cases h2 : c * b < a * d
    · rw [if_pos h2, if_pos (by omega)]
    · rw [if_neg h2, if_neg (by omega)]
theorem cmpR_zz (b d : Int) : cmpR 0 b 0 d = 0 := by unfold cmpR; simp
theorem cmpR_z (b c d : Int) (hb : 0 < b) (hc : 0 < c) : cmpR 0 b c d = -1 := by
  have := Int.mul_pos hc hb
  unfold cmpR; rw [if_pos (by omega)]
theorem cmpR_z2 (a b d : Int) (hd : 0 < d) (ha : 0 < a) : cmpR a b 0 d = 1 := by
  have := Int.mul_pos ha hd
  unfold cmpR; rw [if_neg (by omega), if_pos (by omega)]

/-- rounded down -/
theorem floor_pos (a b : Int) (hb : 0 < b) (h : ¬ a.tmod b < 0) : a.tdiv b = a / b := by
  have e := Int.mul_tdiv_add_tmod a b
  have h1 : a.tmod b < b := Int.tmod_lt_of_pos a hb
  exact ((Int.ediv_emod_unique hb).2 ⟨by omega, by omega, h1⟩).1.symm
theorem floor_neg (a b : Int) (hb : 0 < b) (h : a.tmod b < 0) : a.tdiv b - 1 = a / b := by
  have e := Int.mul_tdiv_add_tmod a b
  have h1 : -b < a.tmod b := by
    have := Int.lt_tmod_of_pos a hb
    omega
  refine ((Int.ediv_emod_unique (r := a.tmod b + b) hb).2 ⟨?_, by omega, by omega⟩).1.symm
  rw [Int.mul_sub]; omega
theorem floor_range (a b : Int) (hb : 0 < b) (ha : -1000000000000000000 ≤ a) (ha2 : a ≤ 1000000000000000000) : -1000000000000000000 ≤ a / b ∧ a / b ≤ 1000000000000000000 := by
  constructor
  · apply Int.le_ediv_of_mul_le hb
    have : 1000000000000000000 * 1 ≤ 1000000000000000000 * b := Int.mul_le_mul_of_nonneg_left (by omega) (by omega)
    omega
  · have : a / b < 1000000000000000000 + 1 := by
      apply Int.ediv_lt_of_lt_mul hb
      have : (1000000000000000000 + 1) * 1 ≤ (1000000000000000000 + 1) * b := Int.mul_le_mul_of_nonneg_left (by omega) (by omega)
      omega
    omega
theorem rest_eq (a b : Int) : a - a / b * b = a % b := by
  have := Int.mul_ediv_add_emod a b
  rw [Int.mul_comm]; omega
theorem ceil_eq (a b : Int) (hb : 0 < b) : ∀ q, q = -((-a) / b) → a ≤ q * b ∧ (q - 1) * b < a := by
  rintro q rfl
  have e := Int.mul_ediv_add_emod (-a) b
  have h0 := Int.emod_nonneg (-a) (by omega : b ≠ 0)
  have h1 := Int.emod_lt_of_pos (-a) hb
  rw [Int.sub_mul, Int.neg_mul, Int.mul_comm]
  omega

/-- n / d reduced: the numerator's and the denominator's magnitude, and the numerator with its sign -/
def topR (n d : Int) : Nat := n.natAbs / Int.gcd n d
def botR (n d : Int) : Nat := d.natAbs / Int.gcd n d
def sgnR (n d : Int) : Int := if decide (n < 0) != decide (d < 0) then -(topR n d : Int) else topR n d
/-- there is a valid fraction with the value n / d -/
def hasR (n d : Int) : Bool := decide (d ≠ 0) && decide (topR n d ≤ 1000000000000000000) && decide (botR n d ≤ 1000000000000000)
theorem hasR_iff (n d : Int) : hasR n d = true ↔ d ≠ 0 ∧ topR n d ≤ 1000000000000000000 ∧ botR n d ≤ 1000000000000000 := by
  unfold hasR; simp [and_assoc]
theorem sgn_abs (n d : Int) : (sgnR n d).natAbs = topR n d := by
  unfold sgnR; split <;> omega
theorem red_gcd (n d : Int) (h : d ≠ 0) : Int.gcd (sgnR n d) (botR n d) = 1 := by
  show Nat.gcd (sgnR n d).natAbs (botR n d) = 1
  rw [sgn_abs]
  exact Nat.gcd_div_gcd_div_gcd_of_pos_right (by omega)
theorem bot_pos (n d : Int) (h : d ≠ 0) : 1 ≤ botR n d := Nat.div_gcd_pos_of_pos_right _ (by omega)
theorem okR_of (n d : Int) (h : hasR n d = true) : okR (sgnR n d) (botR n d) = true := by
  obtain ⟨h0, h1, h2⟩ := (hasR_iff n d).1 h
  have h3 := bot_pos n d h0
  have h4 := sgn_abs n d
  exact (okR_iff _ _).2 ⟨by omega, by omega, by omega, by omega, red_gcd n d h0⟩
theorem gcd_scaled (k N D : Int) (h : Int.gcd N D = 1) : Int.gcd (k * N) (k * D) = k.natAbs := by
  show Nat.gcd (k * N).natAbs (k * D).natAbs = k.natAbs
  rw [Int.natAbs_mul, Int.natAbs_mul, Nat.gcd_mul_left]
  have : Nat.gcd N.natAbs D.natAbs = 1 := h
  rw [this, Nat.mul_one]
theorem scaled (k N D : Int) (hk : k ≠ 0) (h : okR N D = true) : topR (k * N) (k * D) = N.natAbs ∧ (botR (k * N) (k * D) : Int) = D ∧ sgnR (k * N) (k * D) = N ∧ hasR (k * N) (k * D) = true := by
  obtain ⟨h1, h2, h3, h4, h5⟩ := (okR_iff _ _).1 h
  have hk2 : 0 < k.natAbs := by omega
  have ht : topR (k * N) (k * D) = N.natAbs := by
    unfold topR; rw [gcd_scaled k N D h5, Int.natAbs_mul, Nat.mul_div_cancel_left _ hk2]
  have hb : botR (k * N) (k * D) = D.natAbs := by
    unfold botR; rw [gcd_scaled k N D h5, Int.natAbs_mul, Nat.mul_div_cancel_left _ hk2]
  have hs : sgnR (k * N) (k * D) = N := by
    unfold sgnR
    rw [ht]
    by_cases hp : 0 < k
    · have e1 : decide (k * D < 0) = false := by
        have := Int.mul_pos hp (by omega : 0 < D)
        simp; omega
      rw [e1]
      by_cases hn : N < 0
      · have e2 : k * N < 0 := Int.mul_neg_of_pos_of_neg hp hn
        rw [decide_eq_true e2]; simp; omega
      · have e2 : ¬ k * N < 0 := by
          have := Int.mul_nonneg (by omega : 0 ≤ k) (by omega : 0 ≤ N)
          omega
        rw [decide_eq_false e2]; simp; omega
    · have hm : k < 0 := by omega
      have e1 : decide (k * D < 0) = true := by
        have := Int.mul_neg_of_neg_of_pos hm (by omega : 0 < D)
        simpa using this
      rw [e1]
      by_cases hn : 0 < N
      · have e2 : k * N < 0 := Int.mul_neg_of_neg_of_pos hm hn
        rw [decide_eq_true e2]; simp; omega
      · have e2 : ¬ k * N < 0 := by
          have := Int.mul_nonneg_of_nonpos_of_nonpos (by omega : k ≤ 0) (by omega : N ≤ 0)
          omega
        rw [decide_eq_false e2]; simp; omega
  refine ⟨ht, by rw [hb]; omega, hs, (hasR_iff _ _).2 ⟨?_, by rw [ht]; omega, by rw [hb]; omega⟩⟩
  intro e
  rcases Int.mul_eq_zero.1 e with e | e <;> omega
theorem top_le (n d : Int) : topR n d ≤ n.natAbs := Nat.div_le_self _ _
theorem bot_le (n d : Int) : botR n d ≤ d.natAbs := Nat.div_le_self _ _
theorem gcd_step (x y : Nat) : Nat.gcd y (x % y) = Nat.gcd x y := by
  rw [Nat.gcd_comm y, ← Nat.gcd_rec, Nat.gcd_comm]
theorem gcd_le64 (a b : Int) (ha : -9223372036854775808 ≤ a) (ha2 : a ≤ 9223372036854775807) (hb : -9223372036854775808 ≤ b) (hb2 : b ≤ 9223372036854775807) : Int.gcd a b ≤ 9223372036854775808 := by
  show Nat.gcd a.natAbs b.natAbs ≤ _
  by_cases h : 0 < a.natAbs
  · have := Nat.gcd_le_left b.natAbs h; omega
  · have : a.natAbs = 0 := by omega
    rw [this, Nat.gcd_zero_left]; omega

/-- what GcdOf returns -/
def gcdR (a b : Int) : Int := if a = -9223372036854775808 ∨ b = -9223372036854775808 then 0 else Int.gcd a b
theorem gcdR_of (a b : Int) (ha : a ≠ -9223372036854775808) (hb : b ≠ -9223372036854775808) : gcdR a b = Int.gcd a b := by
  unfold gcdR; rw [if_neg (by omega)]

theorem ret_int {k : IntKind} {a b : Int} (h : a = b) : Ending.returned (.int k a) = .returned (.int k b) := by rw [h]
theorem turn (a b : Int) (w : World) (ha : 0 ≤ a) (hb : 0 < b) (ha2 : a ≤ 9223372036854775807) (hb2 : b ≤ 9223372036854775807) :
    Calls Try.prog 85 #[.int .i64 a, .int .i64 b] w fun e w' => e = .returned (.tuple #[.int .i64 b, .int .i64 (a % b)]) ∧ ∃ k, w' = w.drewN k := by
  go_enter Try.func85, Try.ntmps85
  go_wp2
  go_quiet (fail)
  go_wp2
  go_ret2
  exact ⟨rfl, _, rfl⟩
theorem drewN_drewN (w : World) (a b : Nat) : (w.drewN a).drewN b = w.drewN (a + b) := by
  simp [World.drewN, Nat.add_assoc]

set_option maxHeartbeats 800000 in
theorem spec_gcd (a b : Int) (w : World) (ha : -9223372036854775808 ≤ a) (ha2 : a ≤ 9223372036854775807) (hb : -9223372036854775808 ≤ b) (hb2 : b ≤ 9223372036854775807) :
    Calls Try.prog 68 #[.int .i64 a, .int .i64 b] w fun e w' => e = .returned (.int .i64 (gcdR a b)) ∧ ∃ k, w' = w.drewN k := by
  by_cases h1 : a = -9223372036854775808
  · subst h1
    rw [show gcdR (-9223372036854775808) b = 0 from if_pos (.inl rfl)]
    go_enter Try.func68, Try.ntmps68
    go_wp2
    go_ret
    exact ⟨rfl, 0, rfl⟩
  by_cases h2 : b = -9223372036854775808
  · subst h2
    rw [show gcdR a (-9223372036854775808) = 0 from if_pos (.inr rfl)]
    have h3 : -9223372036854775807 ≤ a := by omega
    clear h1
    go_enter Try.func68, Try.ntmps68
    go_wp2
    go_ret
    exact ⟨rfl, 0, rfl⟩
  rw [gcdR_of a b h1 h2]
  have h3 : -9223372036854775807 ≤ a := by omega
  have h4 : -9223372036854775807 ≤ b := by omega
  clear h1 h2 ha hb
  go_enter Try.func68, Try.ntmps68
  go_wp2
  all_goals
    go_loopw [0, 1] (fun x y wr => ∃ p q : Nat, x = .int .i64 p ∧ y = .int .i64 q ∧ p ≤ 9223372036854775807 ∧ q ≤ 9223372036854775807 ∧ Nat.gcd p q = Int.gcd a b ∧ ∃ k, wr = w.drewN k) (fun _ y _ => (intOf y).toNat)
    case atStart => exact ⟨a.natAbs, b.natAbs, by congr 1; omega, by congr 1; omega, by omega, by omega, rfl, 0, rfl⟩
    case round =>
      obtain ⟨p, q, rfl, rfl, hp, hq, hg, k, rfl⟩ := hrel
      have HG := Lib.hid hg
      clear hg
      by_cases h0 : q = 0
      · subst h0
        go_wp2
        go_ret
        exact ⟨ret_int (by rw [← HG.out, Nat.gcd_zero_right]), k, rfl⟩
      · have h5 : (0 : Int) < (q : Int) := by omega
        clear h0
        go_wp2_with fail
        refine (turn (p : Int) (q : Int) _ (by omega) h5 (by omega) (by omega)).mono ?_
        rintro e w1 ⟨rfl, k2, rfl⟩
        have hm := Nat.mod_lt p (by omega : q > 0)
        have HE := Lib.hid (Int.natCast_emod p q)
        generalize hr : (p : Int) % (q : Int) = r at *
        have HR := Lib.hid hr
        clear hr
        go_wp2
        go_roundw
        case rel => exact ⟨q, p % q, rfl, by rw [HE.out], by omega, by omega, by rw [gcd_step]; exact HG.out, _, rfl⟩
        case measure => rw [← HE.out]; simp [intOf]; omega

theorem magn (n : Int) (w : World) (h0 : -9223372036854775808 ≤ n) (h1 : n ≤ 9223372036854775807) :
    Calls Try.prog 65 #[.int .i64 n] w fun e w' => e = .returned (.int .u64 n.natAbs) ∧ w' = w := by
  by_cases h : n < 0
  · go_enter Try.func65, Try.ntmps65
    go_wp2
    go_ret
    refine ⟨ret_int ?_, rfl⟩
    rw [IntKind.wrap_u64, IntKind.wrap_u64]; omega
  · go_enter Try.func65, Try.ntmps65
    go_wp2
    go_ret
    refine ⟨ret_int ?_, rfl⟩
    omega

set_option maxHeartbeats 800000 in
theorem gcd_mag (a b : Nat) (w : World) (ha : a ≤ 9223372036854775808) (hb : b ≤ 9223372036854775808) :
    Calls Try.prog 66 #[.int .u64 a, .int .u64 b] w fun e w' => e = .returned (.int .u64 (Nat.gcd a b)) ∧ ∃ k, w' = w.drewN k := by
  go_enter Try.func66, Try.ntmps66
  go_wp2
  go_loopw [0, 1] (fun x y wr => ∃ p q : Nat, x = .int .u64 p ∧ y = .int .u64 q ∧ p ≤ 9223372036854775808 ∧ q ≤ 9223372036854775808 ∧ Nat.gcd p q = Nat.gcd a b ∧ ∃ k, wr = w.drewN k) (fun _ y _ => (intOf y).toNat)
  case atStart => exact ⟨a, b, rfl, rfl, by omega, by omega, rfl, 0, rfl⟩
  case round =>
    obtain ⟨p, q, rfl, rfl, hp, hq, hg, k, rfl⟩ := hrel
    have HG := Lib.hid hg
    clear hg
    by_cases h0 : q = 0
    · subst h0
      go_wp2
      go_ret
      exact ⟨ret_int (by rw [← HG.out, Nat.gcd_zero_right]), k, rfl⟩
    · have h5 : (0 : Int) < (q : Int) := by omega
      clear h0
      have hm := Nat.mod_lt p (by omega : q > 0)
      have HE := Lib.hid (Int.natCast_emod p q)
      go_wp2
      go_quiet (fail)
      go_wp2
      go_roundw
      case rel => exact ⟨q, p % q, rfl, by rw [HE.out], by omega, by omega, by rw [gcd_step]; exact HG.out, _, drewN_drewN _ _ _⟩
      case measure => rw [← HE.out]; simp [intOf]; omega

set_option maxHeartbeats 800000 in
theorem impl_gcd (a b : Int) (w : World) (ha : -9223372036854775808 ≤ a) (ha2 : a ≤ 9223372036854775807) (hb : -9223372036854775808 ≤ b) (hb2 : b ≤ 9223372036854775807) :
    Calls Try.prog 70 #[.int .i64 a, .int .i64 b] w fun e w' => e = .returned (.int .i64 (gcdR a b)) ∧ ∃ k, w' = w.drewN k := by
  by_cases h1 : a = -9223372036854775808
  · subst h1
    rw [show gcdR (-9223372036854775808) b = 0 from if_pos (.inl rfl)]
    go_enter Try.func70, Try.ntmps70
    go_wp2
    go_ret
    exact ⟨rfl, 0, rfl⟩
  by_cases h2 : b = -9223372036854775808
  · subst h2
    rw [show gcdR a (-9223372036854775808) = 0 from if_pos (.inr rfl)]
    have h3 : (a == -9223372036854775808) = false := by simpa using h1
    clear h1
    go_enter Try.func70, Try.ntmps70
    go_wp2
    go_ret
    exact ⟨rfl, 0, rfl⟩
  rw [gcdR_of a b h1 h2]
  have h3 : (a == -9223372036854775808) = false := by simpa using h1
  have h4 : (b == -9223372036854775808) = false := by simpa using h2
  have h5 : a.natAbs ≤ 9223372036854775807 := by omega
  have h6 : b.natAbs ≤ 9223372036854775807 := by omega
  clear h1 h2
  go_enter Try.func70, Try.ntmps70
  go_wp2_with fail
  refine (magn a _ ha ha2).mono ?_
  rintro e w1 ⟨rfl, rfl⟩
  go_wp2_with fail
  refine (magn b _ hb hb2).mono ?_
  rintro e w1 ⟨rfl, rfl⟩
  go_wp2_with fail
  refine (gcd_mag a.natAbs b.natAbs _ (by omega) (by omega)).mono ?_
  rintro e w1 ⟨rfl, k, rfl⟩
  have hz : a.natAbs.gcd b.natAbs ≤ 9223372036854775807 := by
    by_cases h : 0 < a.natAbs
    · have := Nat.gcd_le_left b.natAbs h; omega
    · have : a.natAbs = 0 := by omega
      rw [this, Nat.gcd_zero_left]; omega
  show _
  have HI := Lib.hid (show Int.gcd a b = a.natAbs.gcd b.natAbs from rfl)
  generalize a.natAbs.gcd b.natAbs = g at *
  go_wp2_with fail
  go_ret
  exact ⟨ret_int (by rw [HI.out]), k, rfl⟩

theorem below_drewN (w : World) (k : Nat) : Below w.heap.size w (w.drewN k) := ⟨rfl, rfl, rfl, Nat.le_refl _, fun _ _ => rfl⟩

theorem ret_bool2 {a b : Bool} (h : a = b) : Ending.returned (.bool a) = .returned (.bool b) := by rw [h]
/-- within two bounds -/
def inB (n lo hi : Int) : Bool := decide (lo ≤ n) && decide (n ≤ hi)
theorem in_spec (n lo hi : Int) (w : World) :
    Calls Try.prog 67 #[.int .i64 n, .int .i64 lo, .int .i64 hi] w fun e w' => e = .returned (.bool (inB n lo hi)) ∧ w' = w := by
  by_cases h1 : lo ≤ n
  · by_cases h2 : n ≤ hi
    all_goals
      go_enter Try.func67, Try.ntmps67
      go_wp2
      go_ret
      exact ⟨ret_bool2 (by unfold inB; simp; omega), rfl⟩
  · go_enter Try.func67, Try.ntmps67
    go_wp2
    go_ret
    exact ⟨ret_bool2 (by unfold inB; simp; omega), rfl⟩

theorem okR_in (n d : Int) : okR n d = (inB d 1 1000000000000000 && inB n (-1000000000000000000) 1000000000000000000 && (gcdR n d == 1)) := by
  by_cases h : okR n d = true
  · rw [h]
    obtain ⟨h1, h2, h3, h4, h5⟩ := (okR_iff _ _).1 h
    unfold inB
    rw [gcdR_of _ _ (by omega) (by omega), h5, decide_eq_true h1, decide_eq_true h2, decide_eq_true h3, decide_eq_true h4]; rfl
  · rw [Bool.not_eq_true] at h
    rw [h]
    cases hx : (inB d 1 1000000000000000 && inB n (-1000000000000000000) 1000000000000000000 && (gcdR n d == 1)) with
    | false => rfl
    | true =>
      simp only [inB, Bool.and_eq_true, decide_eq_true_eq, beq_iff_eq] at hx
      obtain ⟨⟨⟨h1, h2⟩, h3, h4⟩, h5⟩ := hx
      rw [gcdR_of _ _ (by omega) (by omega)] at h5
      rw [(okR_iff n d).2 ⟨h1, h2, h3, h4, by omega⟩] at h
      cases h

theorem okR_no {n d : Int} (h : d < 1 ∨ 1000000000000000 < d ∨ n < -1000000000000000000 ∨ 1000000000000000000 < n) : false = okR n d := by
  cases hx : okR n d with
  | false => rfl
  | true => obtain ⟨h1, h2, h3, h4, h5⟩ := (okR_iff _ _).1 hx; omega
theorem okR_yes {n d : Int} (h1 : 1 ≤ d) (h2 : d ≤ 1000000000000000) (h3 : -1000000000000000000 ≤ n) (h4 : n ≤ 1000000000000000000) : (gcdR n d == 1) = okR n d := by
  rw [okR_in]; unfold inB
  rw [decide_eq_true h1, decide_eq_true h2, decide_eq_true h3, decide_eq_true h4]; rfl
theorem below_drew {w w' : World} (h : Below w.heap.size w w') (k : Nat) : Below w.heap.size w (w'.drewN k) := h.trans ((below_drewN w' k).mono h.size)
theorem below_box (w : World) (o : Obj) : Below w.heap.size w (w.alloc o) := (Below.refl _ _).alloc (Nat.le_refl _) _

set_option maxHeartbeats 800000 in
theorem spec_ok (n d : Int) (w : World) (hn : -9223372036854775808 ≤ n) (hn2 : n ≤ 9223372036854775807) (hd : -9223372036854775808 ≤ d) (hd2 : d ≤ 9223372036854775807) :
    Calls Try.prog 34 #[.agg #[.int .i64 n, .int .i64 d]] w fun e w' => e = .returned (.bool (okR n d)) ∧ Below w.heap.size w w' := by
  go_enter Try.func34, Try.ntmps34
  go_wp2_with (first | (go_at_call 68; refine (spec_gcd n d _ hn hn2 hd hd2).mono ?_; rintro e w1 ⟨rfl, k, rfl⟩) | (go_at_call 67; refine (in_spec _ _ _ _).mono ?_; rintro e w1 ⟨rfl, rfl⟩))
  all_goals go_ret
  all_goals first
    | exact ⟨ret_bool2 (by rw [okR_in]; simp [*]), below_box _ _⟩
    | exact ⟨ret_bool2 (by rw [okR_in]; simp [*]), below_drew (below_box _ _) _⟩

set_option maxHeartbeats 800000 in
theorem impl_ok (n d : Int) (w : World) (hn : -9223372036854775808 ≤ n) (hn2 : n ≤ 9223372036854775807) (hd : -9223372036854775808 ≤ d) (hd2 : d ≤ 9223372036854775807) :
    Calls Try.prog 36 #[.agg #[.int .i64 n, .int .i64 d]] w fun e w' => e = .returned (.bool (okR n d)) ∧ Below w.heap.size w w' := by
  go_enter Try.func36, Try.ntmps36
  go_wp2_with (go_at_call 70; refine (impl_gcd n d _ hn hn2 hd hd2).mono ?_; rintro e w1 ⟨rfl, k, rfl⟩)
  all_goals go_ret
  all_goals first
    | exact ⟨ret_bool2 (okR_no (by omega)), below_box _ _⟩
    | exact ⟨ret_bool2 (okR_yes (by omega) (by omega) (by omega) (by omega)), below_drew (below_box _ _) _⟩

set_option maxHeartbeats 800000 in
theorem to_ratio (n d : Int) (w : World) :
    Calls Try.prog 14 #[.agg #[.int .i64 n, .int .i64 d]] w fun e w' => e = .returned (.agg #[.int .i64 n, .int .i64 d]) ∧ Below w.heap.size w w' := by
  go_enter Try.func14, Try.ntmps14
  go_wp2
  exact bodyPost_ret (v := .agg #[.int .i64 n, .int .i64 d]) (by simp [results, Try.results14, go_sem]) rfl ⟨rfl, ((below_box _ _).alloc (by simp) _).alloc (by simp; omega) _⟩

theorem boxed {w w1 : World} {a b : Value} {T : TypeId} (hb : Below (w.alloc (.cells #[a, b] T)).heap.size (w.alloc (.cells #[a, b] T)) w1) :
    w1.cell? ⟨w.heap.size, 0, none⟩ = some a ∧ w1.cell? ⟨w.heap.size, 1, none⟩ = some b ∧ w.heap.size < w1.heap.size := by
  have hz := hb.size
  simp at hz
  refine ⟨?_, ?_, by omega⟩
  · rw [hb.cell (p := ⟨w.heap.size, 0, none⟩) (by simp)]
    exact cell_of_row _ _ _ _ _ _ (heap_alloc_new w _)
  · rw [hb.cell (p := ⟨w.heap.size, 1, none⟩) (by simp)]
    exact cell_of_row _ _ _ _ _ _ (heap_alloc_new w _)

theorem tdiv_range (a b : Int) (hb : 0 < b) (ha : -1000000000000000000 ≤ a) (ha2 : a ≤ 1000000000000000000) : -1000000000000000000 ≤ a.tdiv b ∧ a.tdiv b ≤ 1000000000000000000 := by
  have h := floor_range a b hb ha ha2
  by_cases h1 : a.tmod b < 0
  · have h2 := floor_neg a b hb h1
    have h3 : a / b < 1000000000000000000 := by
      apply Int.ediv_lt_of_lt_mul hb
      have h4 : a < 0 := by
        rcases Int.lt_or_le a 0 with h3 | h3
        · exact h3
        · have := Int.tmod_nonneg b h3; omega
      have : 0 ≤ 1000000000000000000 * b := Int.mul_nonneg (by omega) (by omega)
      omega
    omega
  · rw [floor_pos a b hb h1]; exact h

theorem spec_floor (a b : Int) (w : World) (hb : 0 < b) (hb2 : b ≤ 1000000000000000000) (ha : -1000000000000000000 ≤ a) (ha2 : a ≤ 1000000000000000000) :
    Calls Try.prog 69 #[.int .i64 a, .int .i64 b] w fun e w' => e = .returned (.int .i64 (a / b)) ∧ w' = w := by
  obtain ⟨h1, h2⟩ := tdiv_range a b hb ha ha2
  by_cases h : a.tmod b < 0
  · have HF := Lib.hid (floor_neg a b hb h)
    go_enter Try.func69, Try.ntmps69
    go_wp2
    go_ret
    exact ⟨ret_int HF.out, rfl⟩
  · have HF := Lib.hid (floor_pos a b hb h)
    go_enter Try.func69, Try.ntmps69
    go_wp2
    go_ret
    exact ⟨ret_int HF.out, rfl⟩

theorem whole (a b : Int) (w : World) (hb : 0 < b) (hb2 : b ≤ 1000000000000000000) (ha : -1000000000000000000 ≤ a) (ha2 : a ≤ 1000000000000000000) :
    Calls Try.prog 71 #[.agg #[.int .i64 a, .int .i64 b]] w fun e w' => e = .returned (.int .i64 (a / b)) ∧ w' = w.alloc (.cells #[.int .i64 a, .int .i64 b] 27) := by
  obtain ⟨h1, h2⟩ := tdiv_range a b hb ha ha2
  by_cases h : a.tmod b < 0
  · have HF := Lib.hid (floor_neg a b hb h)
    go_enter Try.func71, Try.ntmps71
    go_wp2
    go_ret
    exact ⟨ret_int HF.out, rfl⟩
  · have HF := Lib.hid (floor_pos a b hb h)
    go_enter Try.func71, Try.ntmps71
    go_wp2
    go_ret
    exact ⟨ret_int HF.out, rfl⟩

/-- rounded down, or 0 -/
def floR (n d : Int) : Int := if okR n d = true then n / d else 0
/-- rounded up, or 0 -/
def ceiR (n d : Int) : Int := if okR n d = true then -((-n) / d) else 0
theorem below_box2 {w w' : World} (h : Below w.heap.size w w') (o : Obj) : Below w.heap.size w (w'.alloc o) := h.trans ((below_box w' o).mono h.size)

set_option maxHeartbeats 800000 in
theorem spec_floorR (n d : Int) (w : World) (hn : -9223372036854775808 ≤ n) (hn2 : n ≤ 9223372036854775807) (hd : -9223372036854775808 ≤ d) (hd2 : d ≤ 9223372036854775807) :
    Calls Try.prog 41 #[.agg #[.int .i64 n, .int .i64 d]] w fun e w' => e = .returned (.int .i64 (floR n d)) ∧ Below w.heap.size w w' := by
  have hb := below_box w (.cells #[.int .i64 n, .int .i64 d] 27)
  cases h : okR n d with
  | false =>
    rw [show floR n d = 0 by unfold floR; rw [h]; rfl]
    have HO := Lib.hid h
    clear h
    go_enter Try.func41, Try.ntmps41
    go_wp2_with fail
    refine (spec_ok n d _ hn hn2 hd hd2).mono ?_
    rw [HO.out]
    rintro e w1 ⟨rfl, hb1⟩
    go_wp2_with fail
    go_ret
    exact ⟨rfl, hb.trans (hb1.mono hb.size)⟩
  | true =>
  have HV := Lib.hid (show floR n d = n / d by unfold floR; rw [h]; rfl)
  obtain ⟨h1, h2, h3, h4, _⟩ := (okR_iff _ _).1 h
  have HO := Lib.hid h
  clear h
  have hr := floor_range n d (by omega) (by omega) (by omega)
  go_enter Try.func41, Try.ntmps41
  go_wp2_with fail
  refine (spec_ok n d _ hn hn2 hd hd2).mono ?_
  rw [HO.out]
  rintro e w1 ⟨rfl, hb1⟩
  obtain ⟨c0, c1, hz⟩ := boxed hb1
  go_wp2_with fail
  refine (spec_floor n d _ (by omega) (by omega) (by omega) (by omega)).mono ?_
  rintro e w2 ⟨rfl, rfl⟩
  generalize n / d = x at *
  go_wp2_with fail
  go_ret
  exact ⟨ret_int HV.out.symm, hb.trans (hb1.mono hb.size)⟩

set_option maxHeartbeats 800000 in
theorem impl_floorR (n d : Int) (w : World) (hn : -9223372036854775808 ≤ n) (hn2 : n ≤ 9223372036854775807) (hd : -9223372036854775808 ≤ d) (hd2 : d ≤ 9223372036854775807) :
    Calls Try.prog 45 #[.agg #[.int .i64 n, .int .i64 d]] w fun e w' => e = .returned (.int .i64 (floR n d)) ∧ Below w.heap.size w w' := by
  have hb := below_box w (.cells #[.int .i64 n, .int .i64 d] 27)
  cases h : okR n d with
  | false =>
    rw [show floR n d = 0 by unfold floR; rw [h]; rfl]
    have HO := Lib.hid h
    clear h
    go_enter Try.func45, Try.ntmps45
    go_wp2_with fail
    refine (impl_ok n d _ hn hn2 hd hd2).mono ?_
    rw [HO.out]
    rintro e w1 ⟨rfl, hb1⟩
    go_wp2_with fail
    go_ret
    exact ⟨rfl, hb.trans (hb1.mono hb.size)⟩
  | true =>
  have HV := Lib.hid (show floR n d = n / d by unfold floR; rw [h]; rfl)
  obtain ⟨h1, h2, h3, h4, _⟩ := (okR_iff _ _).1 h
  have HO := Lib.hid h
  clear h
  have hr := floor_range n d (by omega) (by omega) (by omega)
  go_enter Try.func45, Try.ntmps45
  go_wp2_with fail
  refine (impl_ok n d _ hn hn2 hd hd2).mono ?_
  rw [HO.out]
  rintro e w1 ⟨rfl, hb1⟩
  obtain ⟨c0, c1, hz⟩ := boxed hb1
  go_wp2_with fail
  refine (whole n d _ (by omega) (by omega) (by omega) (by omega)).mono ?_
  rintro e w2 ⟨rfl, rfl⟩
  generalize n / d = x at *
  go_wp2_with fail
  go_ret
  exact ⟨ret_int HV.out.symm, hb.trans ((below_box2 hb1 _).mono hb.size)⟩

set_option maxHeartbeats 800000 in
theorem spec_ceilR (n d : Int) (w : World) (hn : -9223372036854775808 ≤ n) (hn2 : n ≤ 9223372036854775807) (hd : -9223372036854775808 ≤ d) (hd2 : d ≤ 9223372036854775807) :
    Calls Try.prog 40 #[.agg #[.int .i64 n, .int .i64 d]] w fun e w' => e = .returned (.int .i64 (ceiR n d)) ∧ Below w.heap.size w w' := by
  have hb := below_box w (.cells #[.int .i64 n, .int .i64 d] 27)
  cases h : okR n d with
  | false =>
    rw [show ceiR n d = 0 by unfold ceiR; rw [h]; rfl]
    have HO := Lib.hid h
    clear h
    go_enter Try.func40, Try.ntmps40
    go_wp2_with fail
    refine (spec_ok n d _ hn hn2 hd hd2).mono ?_
    rw [HO.out]
    rintro e w1 ⟨rfl, hb1⟩
    go_wp2_with fail
    go_ret
    exact ⟨rfl, hb.trans (hb1.mono hb.size)⟩
  | true =>
  have HV := Lib.hid (show ceiR n d = -((-n) / d) by unfold ceiR; rw [h]; rfl)
  obtain ⟨h1, h2, h3, h4, _⟩ := (okR_iff _ _).1 h
  have HO := Lib.hid h
  clear h
  have hr := floor_range (-n) d (by omega) (by omega) (by omega)
  go_enter Try.func40, Try.ntmps40
  go_wp2_with fail
  refine (spec_ok n d _ hn hn2 hd hd2).mono ?_
  rw [HO.out]
  rintro e w1 ⟨rfl, hb1⟩
  obtain ⟨c0, c1, hz⟩ := boxed hb1
  go_wp2_with fail
  refine (spec_floor (-n) d _ (by omega) (by omega) (by omega) (by omega)).mono ?_
  rintro e w2 ⟨rfl, rfl⟩
  generalize (-n) / d = x at *
  go_wp2_with fail
  go_ret
  exact ⟨ret_int HV.out.symm, hb.trans (hb1.mono hb.size)⟩

set_option maxHeartbeats 800000 in
theorem impl_ceilR (n d : Int) (w : World) (hn : -9223372036854775808 ≤ n) (hn2 : n ≤ 9223372036854775807) (hd : -9223372036854775808 ≤ d) (hd2 : d ≤ 9223372036854775807) :
    Calls Try.prog 44 #[.agg #[.int .i64 n, .int .i64 d]] w fun e w' => e = .returned (.int .i64 (ceiR n d)) ∧ Below w.heap.size w w' := by
  have hb := below_box w (.cells #[.int .i64 n, .int .i64 d] 27)
  cases h : okR n d with
  | false =>
    rw [show ceiR n d = 0 by unfold ceiR; rw [h]; rfl]
    have HO := Lib.hid h
    clear h
    go_enter Try.func44, Try.ntmps44
    go_wp2_with fail
    refine (impl_ok n d _ hn hn2 hd hd2).mono ?_
    rw [HO.out]
    rintro e w1 ⟨rfl, hb1⟩
    go_wp2_with fail
    go_ret
    exact ⟨rfl, hb.trans (hb1.mono hb.size)⟩
  | true =>
  have HV := Lib.hid (show ceiR n d = -((-n) / d) by unfold ceiR; rw [h]; rfl)
  obtain ⟨h1, h2, h3, h4, _⟩ := (okR_iff _ _).1 h
  have HO := Lib.hid h
  clear h
  have hr := floor_range (-n) d (by omega) (by omega) (by omega)
  go_enter Try.func44, Try.ntmps44
  go_wp2_with fail
  refine (impl_ok n d _ hn hn2 hd hd2).mono ?_
  rw [HO.out]
  rintro e w1 ⟨rfl, hb1⟩
  obtain ⟨c0, c1, hz⟩ := boxed hb1
  go_wp2_with fail
  refine (whole (-n) d _ (by omega) (by omega) (by omega) (by omega)).mono ?_
  rintro e w2 ⟨rfl, rfl⟩
  generalize (-n) / d = x at *
  go_wp2_with fail
  go_ret
  exact ⟨ret_int HV.out.symm, hb.trans ((below_box2 hb1 _).mono hb.size)⟩

/-- a valid fraction against another, or 0 -/
def cmpO (a b c d : Int) : Int := if okR a b = true ∧ okR c d = true then cmpR a b c d else 0
theorem cmpO_of {a b c d : Int} (h1 : okR a b = true) (h2 : okR c d = true) : cmpO a b c d = cmpR a b c d := if_pos ⟨h1, h2⟩
theorem cmpO_no1 {a b c d : Int} (h1 : okR a b = false) : cmpO a b c d = 0 := if_neg (by rw [h1]; simp)
theorem cmpO_no2 {a b c d : Int} (h1 : okR c d = false) : cmpO a b c d = 0 := if_neg (by rw [h1]; simp)

theorem boxed2 {w w1 : World} {a b c d : Value} {T U : TypeId} (hb : Below ((w.alloc (.cells #[a, b] T)).alloc (.cells #[c, d] U)).heap.size ((w.alloc (.cells #[a, b] T)).alloc (.cells #[c, d] U)) w1) :
    w1.cell? ⟨w.heap.size, 0, none⟩ = some a ∧ w1.cell? ⟨w.heap.size, 1, none⟩ = some b ∧ w1.cell? ⟨w.heap.size + 1, 0, none⟩ = some c ∧ w1.cell? ⟨w.heap.size + 1, 1, none⟩ = some d ∧ w.heap.size + 1 < w1.heap.size := by
  have h1 := boxed hb
  have h0 := boxed (w1 := w1) ((below_box (w.alloc (.cells #[a, b] T)) (.cells #[c, d] U)).trans (hb.mono (by simp)))
  simp at h1
  exact ⟨h0.1, h0.2.1, h1.1, h1.2.1, h1.2.2⟩

theorem rest_bounds (a b : Int) (hb : 0 < b) : 0 ≤ a - a / b * b ∧ a - a / b * b < b := by
  rw [rest_eq]
  exact ⟨Int.emod_nonneg a (by omega), Int.emod_lt_of_pos a hb⟩
theorem ne_b {a b : Int} (h : a ≠ b) : (a != b) = true := by simpa using h
theorem eq_b {a b : Int} (h : a ≠ b) : (a == b) = false := by simpa using h

/-- what the loop keeps: the comparison that is left, times the sign, is the one that was asked -/
def Left (R a b c d s : Int) : Prop := s * cmpR a b c d = R

theorem left_less {R x y u v s : Int} (h : Left R x y u v s) (e : cmpR x y u v = -1) : -s = R := by unfold Left at h; rw [e] at h; omega
theorem left_more {R x y u v s : Int} (h : Left R x y u v s) (e : cmpR x y u v = 1) : s = R := by unfold Left at h; rw [e] at h; omega
theorem left_rest {R x y u v s m n : Int} (h : Left R x y u v s) (e : cmpR m y n v = cmpR x y u v) : Left R m y n v s := by unfold Left at *; rw [e]; exact h
theorem left_zz {R y v s : Int} (h : Left R 0 y 0 v s) : 0 = R := by unfold Left at h; rw [cmpR_zz] at h; omega
theorem left_next {R m y n v s : Int} (h : Left R m y n v s) : Left R y m v n (-s) := by unfold Left at *; rw [cmpR_turn2, Int.neg_mul_neg]; exact h

set_option maxHeartbeats 4000000 in
theorem spec_cmp_loop (a b c d : Int) (w : World) (ha : -1000000000000000000 ≤ a) (ha2 : a ≤ 1000000000000000000) (hb : 1 ≤ b) (hb2 : b ≤ 1000000000000000000) (hc : -1000000000000000000 ≤ c) (hc2 : c ≤ 1000000000000000000) (hd : 1 ≤ d) (hd2 : d ≤ 1000000000000000000)
    (h1 : okR a b = true) (h2 : okR c d = true) :
    Calls Try.prog 35 #[.agg #[.int .i64 a, .int .i64 b], .agg #[.int .i64 c, .int .i64 d]] w fun e w' => e = .returned (.int .i64 (cmpR a b c d)) ∧ Below w.heap.size w w' := by
  have H1 := Lib.hid h1
  have H2 := Lib.hid h2
  clear h1 h2
  have hw : Below w.heap.size w ((w.alloc (.cells #[.int .i64 a, .int .i64 b] 27)).alloc (.cells #[.int .i64 c, .int .i64 d] 27)) := below_box2 (below_box _ _) _
  go_enter Try.func35, Try.ntmps35
  go_wp2_with fail
  refine (spec_ok a b _ (by omega) (by omega) (by omega) (by omega)).mono ?_
  rw [H1.out]
  rintro e w1 ⟨rfl, bl1⟩
  obtain ⟨p0, p1, p2, p3, hz1⟩ := boxed2 bl1
  go_wp2_with fail
  refine (spec_ok c d _ (by omega) (by omega) (by omega) (by omega)).mono ?_
  rw [H2.out]
  rintro e w2 ⟨rfl, bl2⟩
  have bl12 := bl1.trans (bl2.mono bl1.size)
  clear p0 p1 p2 p3
  obtain ⟨p0, p1, p2, p3, hz2⟩ := boxed2 bl12
  have hbw := hw.trans (bl12.mono hw.size)
  go_wp2_with fail
  clear p0 p1 p2 p3 bl1 bl2 bl12 hw hz1
  go_loop [5, 6, 7, 8, 9] (fun xa xb xc xd xs => ∃ x y u v s : Int, xa = .int .i64 x ∧ xb = .int .i64 y ∧ xc = .int .i64 u ∧ xd = .int .i64 v ∧ xs = .int .i64 s ∧ -1000000000000000000 ≤ x ∧ x ≤ 1000000000000000000 ∧ 1 ≤ y ∧ y ≤ 1000000000000000000 ∧ -1000000000000000000 ≤ u ∧ u ≤ 1000000000000000000 ∧ 1 ≤ v ∧ v ≤ 1000000000000000000 ∧ -1 ≤ s ∧ s ≤ 1 ∧ Left (cmpR a b c d) x y u v s) (fun _ xb _ _ _ => (intOf xb).toNat)
  case atStart => exact ⟨a, b, c, d, 1, rfl, rfl, rfl, rfl, rfl, by omega, by omega, by omega, by omega, by omega, by omega, by omega, by omega, by omega, by omega, by unfold Left; omega⟩
  case round =>
    obtain ⟨x, y, u, v, s, rfl, rfl, rfl, rfl, rfl, hx, hx2, hy, hy2, hu, hu2, hv, hv2, hs, hs2, hL⟩ := hrel
    have HL := Lib.hid hL
    clear hL ha ha2 hb hb2 hc hc2 hd hd2 H1 H2
    obtain ⟨f1, f2⟩ := floor_range x y (by omega) hx hx2
    obtain ⟨f3, f4⟩ := floor_range u v (by omega) hu hu2
    obtain ⟨r1, r2⟩ := rest_bounds x y (by omega)
    obtain ⟨r3, r4⟩ := rest_bounds u v (by omega)
    have HP := Lib.hid (⟨cmpR_less x y u v (by omega) (by omega), cmpR_more x y u v (by omega) (by omega)⟩ : _ ∧ _)
    go_wp2_with fail
    refine (spec_floor x y _ (by omega) (by omega) (by omega) (by omega)).mono ?_
    rintro e w3 ⟨rfl, rfl⟩
    generalize x / y = p at *
    go_wp2_with fail
    refine (spec_floor u v _ (by omega) (by omega) (by omega) (by omega)).mono ?_
    rintro e w3 ⟨rfl, rfl⟩
    generalize u / v = q at *
    by_cases hpq : p < q
    · have hn := ne_b (show p ≠ q by omega)
      go_wp2_with fail
      go_ret
      exact ⟨ret_int (left_less HL.out (HP.out.1 hpq)), hbw⟩
    · by_cases hqp : q < p
      · have hn := ne_b (show p ≠ q by omega)
        go_wp2_with fail
        go_ret
        exact ⟨ret_int (left_more HL.out (HP.out.2 hqp)), hbw⟩
      · obtain rfl : p = q := by omega
        clear hpq hqp
        have HR := Lib.hid (left_rest HL.out (cmpR_rest x y u v p))
        clear HL HP
        generalize hg : p * y = py at *
        generalize hh : p * v = pv at *
        by_cases hm : x - py = 0
        · by_cases hn : u - pv = 0
          · rw [hm, hn] at HR
            go_wp2_with fail
            go_ret
            exact ⟨ret_int (left_zz HR.out), hbw⟩
          · have hn2 := eq_b hn
            rw [hm] at HR
            go_wp2_with fail
            go_ret
            exact ⟨ret_int (left_less HR.out (cmpR_z _ _ _ (by omega) (by omega))), hbw⟩
        · have hm2 := eq_b hm
          by_cases hn : u - pv = 0
          · rw [hn] at HR
            go_wp2_with fail
            go_ret
            exact ⟨ret_int (left_more HR.out (cmpR_z2 _ _ _ (by omega) (by omega))), hbw⟩
          · have hn2 := eq_b hn
            go_wp2_with fail
            go_round
            case rel => exact ⟨y, x - py, v, u - pv, -s, rfl, rfl, rfl, rfl, rfl, by omega, by omega, by omega, by omega, by omega, by omega, by omega, by omega, by omega, by omega, left_next HR.out⟩
            case measure => simp [intOf]; omega

/-- the greatest common divisor of three numbers -/
def gS (x y d : Int) : Nat := Int.gcd (Int.gcd x y) d
/-- the spot x / d, y / d is valid -/
def okS (x y d : Int) : Bool := decide (1 ≤ d) && decide (d ≤ 5000000000) && decide (-(1000 * d) ≤ x) && decide (x ≤ 1000 * d) && decide (-(1000 * d) ≤ y) && decide (y ≤ 1000 * d) && decide (gS x y d = 1)
theorem okS_iff (x y d : Int) : okS x y d = true ↔ 1 ≤ d ∧ d ≤ 5000000000 ∧ -(1000 * d) ≤ x ∧ x ≤ 1000 * d ∧ -(1000 * d) ≤ y ∧ y ≤ 1000 * d ∧ gS x y d = 1 := by
  unfold okS; simp [and_assoc]
theorem okS_no {x y d : Int} (h : d < 1 ∨ 5000000000 < d ∨ x < -(1000 * d) ∨ 1000 * d < x ∨ y < -(1000 * d) ∨ 1000 * d < y) : okS x y d = false := by
  cases hx : okS x y d with
  | false => rfl
  | true => obtain ⟨h1, h2, h3, h4, h5, h6, _⟩ := (okS_iff _ _ _).1 hx; omega
theorem okS_yes {x y d : Int} (h1 : 1 ≤ d) (h2 : d ≤ 5000000000) (h3 : -(1000 * d) ≤ x) (h4 : x ≤ 1000 * d) (h5 : -(1000 * d) ≤ y) (h6 : y ≤ 1000 * d) : okS x y d = ((gS x y d : Int) == 1) := by
  unfold okS
  rw [decide_eq_true h1, decide_eq_true h2, decide_eq_true h3, decide_eq_true h4, decide_eq_true h5, decide_eq_true h6]
  simp
  rw [Bool.eq_iff_iff]; simp; omega
theorem gcd_le_max (a b M : Int) (ha : -M ≤ a) (ha2 : a ≤ M) (hb : -M ≤ b) (hb2 : b ≤ M) : (Int.gcd a b : Int) ≤ M := by
  show ((Nat.gcd a.natAbs b.natAbs : Nat) : Int) ≤ _
  by_cases h : 0 < a.natAbs
  · have := Nat.gcd_le_left b.natAbs h; omega
  · have : a.natAbs = 0 := by omega
    rw [this, Nat.gcd_zero_left]; omega
theorem gS_le (x y d : Int) (hd : 1 ≤ d) : (gS x y d : Int) ≤ d := by
  unfold gS
  have := Nat.gcd_le_right (m := (Int.gcd x y : Int).natAbs) (n := d.natAbs) (by omega)
  show ((Nat.gcd _ _ : Nat) : Int) ≤ _
  omega
theorem gS_pos (x y d : Int) (hd : 1 ≤ d) : 1 ≤ gS x y d := by
  unfold gS
  exact Nat.gcd_pos_of_pos_right _ (by omega)
theorem gS_dvd_x (x y d : Int) : (gS x y d : Int) ∣ x :=
  Int.dvd_trans (Int.gcd_dvd_left (Int.gcd x y : Int) d) (Int.gcd_dvd_left x y)
theorem gS_dvd_y (x y d : Int) : (gS x y d : Int) ∣ y :=
  Int.dvd_trans (Int.gcd_dvd_left (Int.gcd x y : Int) d) (Int.gcd_dvd_right x y)
theorem gS_dvd_d (x y d : Int) : (gS x y d : Int) ∣ d := Int.gcd_dvd_right (Int.gcd x y : Int) d
theorem dvd_gS {x y d k : Int} (hx : k ∣ x) (hy : k ∣ y) (hd : k ∣ d) : k ∣ (gS x y d : Int) :=
  Int.dvd_coe_gcd (Int.dvd_coe_gcd hx hy) hd
theorem gS_one {x y d : Int} (h : ∀ k : Nat, (k : Int) ∣ x → (k : Int) ∣ y → (k : Int) ∣ d → k = 1) : gS x y d = 1 :=
  h _ (gS_dvd_x x y d) (gS_dvd_y x y d) (gS_dvd_d x y d)
theorem of_gS_one {x y d : Int} (h : gS x y d = 1) (k : Nat) (hx : (k : Int) ∣ x) (hy : (k : Int) ∣ y) (hd : (k : Int) ∣ d) : k = 1 := by
  have := dvd_gS hx hy hd
  rw [h] at this
  exact Nat.dvd_one.1 (Int.natCast_dvd_natCast.1 this)
/-- moving by whole numbers keeps the lowest terms -/
theorem gS_move (x y d a b : Int) (h : gS x y d = 1) : gS (x + a * d) (y + b * d) d = 1 := by
  refine gS_one fun k hx hy hd => of_gS_one h k ?_ ?_ hd
  · have := Int.dvd_sub hx (Int.dvd_mul_of_dvd_right hd (b := a)); simpa using this
  · have := Int.dvd_sub hy (Int.dvd_mul_of_dvd_right hd (b := b)); simpa using this

/-- there is a valid spot with the coordinates x / d and y / d -/
def hasS (x y d : Int) : Bool := decide (1 ≤ d) && okS (x.tdiv (gS x y d)) (y.tdiv (gS x y d)) (d.tdiv (gS x y d))
def xS (x y d : Int) : Int := if hasS x y d = true then x.tdiv (gS x y d) else 0
def yS (x y d : Int) : Int := if hasS x y d = true then y.tdiv (gS x y d) else 0
def dS (x y d : Int) : Int := if hasS x y d = true then d.tdiv (gS x y d) else 0
theorem hasS_pos {x y d : Int} (h : hasS x y d = true) : 1 ≤ d ∧ okS (x.tdiv (gS x y d)) (y.tdiv (gS x y d)) (d.tdiv (gS x y d)) = true := by
  unfold hasS at h; simpa using h
theorem hasS_no {x y d : Int} (h : ¬ 1 ≤ d) : hasS x y d = false := by unfold hasS; simp [h]
theorem hasS_of {x y d : Int} (h : 1 ≤ d) : hasS x y d = okS (x.tdiv (gS x y d)) (y.tdiv (gS x y d)) (d.tdiv (gS x y d)) := by unfold hasS; simp [h]
theorem tdiv_le (a g M : Int) (h : -M ≤ a) (h2 : a ≤ M) : -M ≤ a.tdiv g ∧ a.tdiv g ≤ M := by
  have h0 := Int.natAbs_tdiv_le_natAbs a g
  omega
end Go.Proofs.Ytibkmhmeoelpdaa
