/- The program's sum of two fractions, over the translation. -/
import Derived.Lib.Mul64
import Derived.Laws.Bits64b
import Derived.Test.YtfndkapjclhflaaYa
namespace Go.Proofs.Ytfndkapjclhflaa
open Go.RowKit

theorem m64_and (a : Nat) (ha : a < 18446744073709551616) : bits .and .u64 (a : Int) 4294967295 = ((a % 4294967296 : Nat) : Int) := by
  have h := bits_and_u64_nat a 4294967295 ha (by omega)
  rwa [show a &&& 4294967295 = a % 4294967296 from Nat.and_two_pow_sub_one_eq_mod a 32] at h
theorem m64_div (a : Nat) : (a : Int) / 4294967296 = ((a / 4294967296 : Nat) : Int) := by omega
theorem m64_mul (a b : Nat) : (a : Int) * (b : Int) = ((a * b : Nat) : Int) := (Int.natCast_mul a b).symm
theorem m64_add (a b : Nat) : (a : Int) + (b : Int) = ((a + b : Nat) : Int) := (Int.natCast_add a b).symm
theorem m64_in (a : Nat) (ha : a < 18446744073709551616) : IntKind.u64.wrap (a : Int) = (a : Int) := by rw [IntKind.wrap_u64]; omega
theorem m64_low (a : Nat) : IntKind.u64.wrap (a : Int) = ((a % 18446744073709551616 : Nat) : Int) := by rw [IntKind.wrap_u64]; omega
set_option maxHeartbeats 1600000 in
theorem mul_64 (x y : Nat) (hx : x < 18446744073709551616) (hy : y < 18446744073709551616) (w : World) :
    Calls Try.prog 111 #[.int .u64 x, .int .u64 y] w fun e w' => e = .returned (.tuple #[.int .u64 ((x * y / 18446744073709551616 : Nat) : Int), .int .u64 ((x * y % 18446744073709551616 : Nat) : Int)]) ∧ w' = w := by
  obtain ⟨h1, h2, h3, h4⟩ := Lib.mul64_hi x y hx hy
  have p1 := Lib.half_mul_le (a := x / 4294967296) (b := y / 4294967296) (by omega) (by omega)
  have p2 := Lib.half_mul_le (a := x / 4294967296) (b := y % 4294967296) (by omega) (by omega)
  have p3 := Lib.half_mul_le (a := x % 4294967296) (b := y / 4294967296) (by omega) (by omega)
  have q1 : x / 4294967296 * (y / 4294967296) < 18446744073709551616 := by omega
  have q2 : x / 4294967296 * (y % 4294967296) < 18446744073709551616 := by omega
  have q3 : x % 4294967296 * (y / 4294967296) < 18446744073709551616 := by omega
  have q4 : x / 4294967296 * (y / 4294967296) + (x / 4294967296 * (y % 4294967296) + x % 4294967296 * (y % 4294967296) / 4294967296) / 4294967296 < 18446744073709551616 := by omega
  have q5 : x / 4294967296 * (y / 4294967296) + (x / 4294967296 * (y % 4294967296) + x % 4294967296 * (y % 4294967296) / 4294967296) / 4294967296 + ((x / 4294967296 * (y % 4294967296) + x % 4294967296 * (y % 4294967296) / 4294967296) % 4294967296 + x % 4294967296 * (y / 4294967296)) / 4294967296 < 18446744073709551616 := by omega
  go_enter Try.func111, Try.ntmps111
  go_wp2
  simp only [m64_and x hx, m64_and y hy, m64_div, m64_mul, m64_add, m64_in _ h1, m64_in _ q2, m64_in _ h2, m64_and _ h2, m64_in _ q3, m64_in _ h3, m64_in _ q1, m64_in _ q4, m64_in _ q5, m64_low (x * y)]
  rw [h4]
  go_ret2
  exact ⟨rfl, rfl⟩
/-- a product within the limit -/
def lpB (a b : Int) : Bool := decide (a.natAbs * b.natAbs ≤ 9000000000000000000)
def lpN (a b : Int) : Int := if lpB a b = true then a * b else 0
theorem lp_abs {a b : Int} (h : lpB a b = true) : -9000000000000000000 ≤ a * b ∧ a * b ≤ 9000000000000000000 := by
  unfold lpB at h
  rw [decide_eq_true_eq, ← Int.natAbs_mul] at h
  generalize a * b = p at *
  omega
set_option maxHeartbeats 1600000 in
theorem impl_lp (a b : Int) (w : World) (ha : -9223372036854775808 ≤ a) (ha2 : a ≤ 9223372036854775807) (hb : -9223372036854775808 ≤ b) (hb2 : b ≤ 9223372036854775807) :
    Calls Try.prog 97 #[.int .i64 a, .int .i64 b] w fun e w' => e = .returned (.tuple #[.int .i64 (lpN a b), .bool (lpB a b)]) ∧ w' = w := by
  have HM := Lib.hid (fun W => magn a W ha ha2)
  have HK := Lib.hid (fun W => magn b W hb hb2)
  have hx : a.natAbs < 18446744073709551616 := by omega
  have hy : b.natAbs < 18446744073709551616 := by omega
  have HMU := Lib.hid (fun W => mul_64 a.natAbs b.natAbs hx hy W)
  cases hB : lpB a b with
  | true =>
    have HP := Lib.hid (lp_abs hB)
    have HN := Lib.hid (show lpN a b = a * b by unfold lpN; rw [if_pos hB])
    unfold lpB at hB
    rw [decide_eq_true_eq] at hB
    have HQ1 := Lib.hid (show a.natAbs * b.natAbs / 18446744073709551616 = 0 by omega)
    have HQ2 := Lib.hid (show a.natAbs * b.natAbs % 18446744073709551616 = a.natAbs * b.natAbs by omega)
    rw [HQ1.out, HQ2.out] at HMU
    have hc : ¬ ((9000000000000000000 : Int) < ((a.natAbs * b.natAbs : Nat) : Int)) := by omega
    have hw : IntKind.i64.wrap (a * b) = a * b := IntWalk.i64_in _ (by have := HP.out; omega)
    clear hB hx hy HQ1 HQ2
    generalize a.natAbs * b.natAbs = m at *
    go_enter Try.func97, Try.ntmps97
    go_wp2_with fail
    refine (HM.out _).mono ?_
    rintro e w1 ⟨rfl, rfl⟩
    go_wp2_with fail
    refine (HK.out _).mono ?_
    rintro e w1 ⟨rfl, rfl⟩
    go_wp2_with fail
    refine (HMU.out _).mono ?_
    rintro e w1 ⟨rfl, rfl⟩
    go_wp2
    go_ret2
    exact ⟨by rw [HN.out]; rfl, rfl⟩
  | false =>
    have HN := Lib.hid (show lpN a b = 0 by unfold lpN; rw [if_neg (by rw [hB]; simp)])
    unfold lpB at hB
    rw [decide_eq_false_iff_not] at hB
    by_cases h1 : a.natAbs * b.natAbs < 18446744073709551616
    · have HQ1 := Lib.hid (show a.natAbs * b.natAbs / 18446744073709551616 = 0 by omega)
      have HQ2 := Lib.hid (show a.natAbs * b.natAbs % 18446744073709551616 = a.natAbs * b.natAbs by omega)
      rw [HQ1.out, HQ2.out] at HMU
      have hc : (9000000000000000000 : Int) < ((a.natAbs * b.natAbs : Nat) : Int) := by omega
      clear hB hx hy HQ1 HQ2 h1
      generalize a.natAbs * b.natAbs = m at *
      go_enter Try.func97, Try.ntmps97
      go_wp2_with fail
      refine (HM.out _).mono ?_
      rintro e w1 ⟨rfl, rfl⟩
      go_wp2_with fail
      refine (HK.out _).mono ?_
      rintro e w1 ⟨rfl, rfl⟩
      go_wp2_with fail
      refine (HMU.out _).mono ?_
      rintro e w1 ⟨rfl, rfl⟩
      go_wp2
      go_ret2
      exact ⟨by rw [HN.out]; rfl, rfl⟩
    · have hq : ¬ (((a.natAbs * b.natAbs / 18446744073709551616 : Nat) : Int) = 0) := by
        have : 0 < a.natAbs * b.natAbs / 18446744073709551616 := Nat.div_pos (by omega) (by omega)
        omega
      clear hB hx hy h1
      generalize a.natAbs * b.natAbs / 18446744073709551616 = m1 at *
      generalize a.natAbs * b.natAbs % 18446744073709551616 = m2 at *
      have hq2 : (((m1 : Int)) != 0) = true := by simpa using hq
      have hq3 : ¬ (m1 = 0) := by omega
      go_enter Try.func97, Try.ntmps97
      go_wp2_with fail
      refine (HM.out _).mono ?_
      rintro e w1 ⟨rfl, rfl⟩
      go_wp2_with fail
      refine (HK.out _).mono ?_
      rintro e w1 ⟨rfl, rfl⟩
      go_wp2_with fail
      refine (HMU.out _).mono ?_
      rintro e w1 ⟨rfl, rfl⟩
      go_wp2
      go_ret2
      exact ⟨by rw [HN.out]; rfl, rfl⟩
/-- a sum within the limit -/
def lsB (a b : Int) : Bool := decide (a + b ≤ 9000000000000000000) && decide (-9000000000000000000 ≤ a + b)
def lsN (a b : Int) : Int := if lsB a b = true then a + b else 0
set_option maxHeartbeats 1600000 in
theorem impl_ls (a b : Int) (w : World) (ha : -9000000000000000000 ≤ a) (ha2 : a ≤ 9000000000000000000) (hb : -9000000000000000000 ≤ b) (hb2 : b ≤ 9000000000000000000) :
    Calls Try.prog 98 #[.int .i64 a, .int .i64 b] w fun e w' => e = .returned (.tuple #[.int .i64 (lsN a b), .bool (lsB a b)]) ∧ w' = w := by
  by_cases c1 : a + b ≤ 9000000000000000000
  · by_cases c2 : -9000000000000000000 ≤ a + b
    · have HB := Lib.hid (show lsB a b = true by unfold lsB; rw [decide_eq_true c1, decide_eq_true c2]; rfl)
      have HN := Lib.hid (show lsN a b = a + b by unfold lsN; rw [if_pos HB.out])
      have hw : IntKind.i64.wrap (a + b) = a + b := IntWalk.i64_in _ (by omega)
      by_cases p : 0 < b
      · have v1 : IntKind.i64.wrap (9000000000000000000 - b) = 9000000000000000000 - b := IntWalk.i64_in _ (by omega)
        have v2 : ¬ (9000000000000000000 - b < a) := by omega
        have v3 : ¬ (b < 0) := by omega
        go_enter Try.func98, Try.ntmps98
        go_wp2
        go_ret2
        exact ⟨by rw [HB.out, HN.out]; rfl, rfl⟩
      · by_cases q : b < 0
        · have v1 : IntKind.i64.wrap (-9000000000000000000 - b) = -9000000000000000000 - b := IntWalk.i64_in _ (by omega)
          have v2 : ¬ (a < -9000000000000000000 - b) := by omega
          go_enter Try.func98, Try.ntmps98
          go_wp2
          go_ret2
          exact ⟨by rw [HB.out, HN.out]; rfl, rfl⟩
        · go_enter Try.func98, Try.ntmps98
          go_wp2
          go_ret2
          exact ⟨by rw [HB.out, HN.out]; rfl, rfl⟩
    · have HB := Lib.hid (show lsB a b = false by unfold lsB; rw [decide_eq_false c2]; simp)
      have HN := Lib.hid (show lsN a b = 0 by unfold lsN; rw [if_neg (by rw [HB.out]; simp)])
      have p : ¬ (0 < b) := by omega
      have q : b < 0 := by omega
      have v1 : IntKind.i64.wrap (-9000000000000000000 - b) = -9000000000000000000 - b := IntWalk.i64_in _ (by omega)
      have v2 : a < -9000000000000000000 - b := by omega
      go_enter Try.func98, Try.ntmps98
      go_wp2
      go_ret2
      exact ⟨by rw [HB.out, HN.out]; rfl, rfl⟩
  · have HB := Lib.hid (show lsB a b = false by unfold lsB; rw [decide_eq_false c1]; simp)
    have HN := Lib.hid (show lsN a b = 0 by unfold lsN; rw [if_neg (by rw [HB.out]; simp)])
    have p : 0 < b := by omega
    have v1 : IntKind.i64.wrap (9000000000000000000 - b) = 9000000000000000000 - b := IntWalk.i64_in _ (by omega)
    have v2 : 9000000000000000000 - b < a := by omega
    go_enter Try.func98, Try.ntmps98
    go_wp2
    go_ret2
    exact ⟨by rw [HB.out, HN.out]; rfl, rfl⟩
end Go.Proofs.Ytfndkapjclhflaa
