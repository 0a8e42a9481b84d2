/- The contracts of both GcdOf functions over the translation, and the walk of their law. -/
import Derived.Test.YtkodoedkdgldnabProg
import Derived.Test.YtkodoedkdgldnabRat
import Derived.WalkKit
import Derived.WalkLawsBesides
import Derived.Laws.RangeAny
import Derived.Lib.Hide
import Derived.Below
import Derived.OpenShut
import Derived.BigQuiet
import Derived.Deep.QuietTactic
namespace Go.Proofs.Ytkodoedkdgldnab
open Go.RowKit

/-- what GcdOf returns -/
def gcdR (a b : Int) : Int := if a = -9223372036854775808 ∨ b = -9223372036854775808 then 0 else Int.gcd a b
theorem gcdR_of (a b : Int) (ha : a ≠ -9223372036854775808) (hb : b ≠ -9223372036854775808) : gcdR a b = Int.gcd a b := by
  unfold gcdR; rw [if_neg (by omega)]

theorem ret_int {k : IntKind} {a b : Int} (h : a = b) : Ending.returned (.int k a) = .returned (.int k b) := by rw [h]
theorem turn (a b : Int) (w : World) (ha : 0 ≤ a) (hb : 0 < b) (ha2 : a ≤ 9223372036854775807) (hb2 : b ≤ 9223372036854775807) :
    Calls Try.prog 21 #[.int .i64 a, .int .i64 b] w fun e w' => e = .returned (.tuple #[.int .i64 b, .int .i64 (a % b)]) ∧ ∃ k, w' = w.drewN k := by
  go_enter Try.func21, Try.ntmps21
  go_wp2
  go_quiet (fail)
  go_wp2
  go_ret2
  exact ⟨rfl, _, rfl⟩
theorem drewN_drewN (w : World) (a b : Nat) : (w.drewN a).drewN b = w.drewN (a + b) := by
  simp [World.drewN, Nat.add_assoc]

set_option maxHeartbeats 800000 in
theorem spec_gcd (a b : Int) (w : World) (ha : -9223372036854775808 ≤ a) (ha2 : a ≤ 9223372036854775807) (hb : -9223372036854775808 ≤ b) (hb2 : b ≤ 9223372036854775807) :
    Calls Try.prog 13 #[.int .i64 a, .int .i64 b] w fun e w' => e = .returned (.int .i64 (gcdR a b)) ∧ ∃ k, w' = w.drewN k := by
  by_cases h1 : a = -9223372036854775808
  · subst h1
    rw [show gcdR (-9223372036854775808) b = 0 from if_pos (.inl rfl)]
    go_enter Try.func13, Try.ntmps13
    go_wp2
    go_ret
    exact ⟨rfl, 0, rfl⟩
  by_cases h2 : b = -9223372036854775808
  · subst h2
    rw [show gcdR a (-9223372036854775808) = 0 from if_pos (.inr rfl)]
    have h3 : -9223372036854775807 ≤ a := by omega
    clear h1
    go_enter Try.func13, Try.ntmps13
    go_wp2
    go_ret
    exact ⟨rfl, 0, rfl⟩
  rw [gcdR_of a b h1 h2]
  have h3 : -9223372036854775807 ≤ a := by omega
  have h4 : -9223372036854775807 ≤ b := by omega
  clear h1 h2 ha hb
  go_enter Try.func13, Try.ntmps13
  go_wp2
  all_goals
    go_loopw [0, 1] (fun x y wr => ∃ p q : Nat, x = .int .i64 p ∧ y = .int .i64 q ∧ p ≤ 9223372036854775807 ∧ q ≤ 9223372036854775807 ∧ Nat.gcd p q = Int.gcd a b ∧ ∃ k, wr = w.drewN k) (fun _ y _ => (intOf y).toNat)
    case atStart => exact ⟨a.natAbs, b.natAbs, by congr 1; omega, by congr 1; omega, by omega, by omega, rfl, 0, rfl⟩
    case round =>
      obtain ⟨p, q, rfl, rfl, hp, hq, hg, k, rfl⟩ := hrel
      have HG := Lib.hid hg
      clear hg
      by_cases h0 : q = 0
      · subst h0
        go_wp2
        go_ret
        exact ⟨ret_int (by rw [← HG.out, Nat.gcd_zero_right]), k, rfl⟩
      · have h5 : (0 : Int) < (q : Int) := by omega
        clear h0
        go_wp2_with fail
        refine (turn (p : Int) (q : Int) _ (by omega) h5 (by omega) (by omega)).mono ?_
        rintro e w1 ⟨rfl, k2, rfl⟩
        have hm := Nat.mod_lt p (by omega : q > 0)
        have HE := Lib.hid (Int.natCast_emod p q)
        generalize hr : (p : Int) % (q : Int) = r at *
        have HR := Lib.hid hr
        clear hr
        go_wp2
        go_roundw
        case rel => exact ⟨q, p % q, rfl, by rw [HE.out], by omega, by omega, by rw [gcd_step]; exact HG.out, _, rfl⟩
        case measure => rw [← HE.out]; simp [intOf]; omega

theorem magn (n : Int) (w : World) (h0 : -9223372036854775808 ≤ n) (h1 : n ≤ 9223372036854775807) :
    Calls Try.prog 17 #[.int .i64 n] w fun e w' => e = .returned (.int .u64 n.natAbs) ∧ w' = w := by
  by_cases h : n < 0
  · go_enter Try.func17, Try.ntmps17
    go_wp2
    go_ret
    refine ⟨ret_int ?_, rfl⟩
    rw [IntKind.wrap_u64, IntKind.wrap_u64]; omega
  · go_enter Try.func17, Try.ntmps17
    go_wp2
    go_ret
    refine ⟨ret_int ?_, rfl⟩
    omega

set_option maxHeartbeats 800000 in
theorem gcd_mag (a b : Nat) (w : World) (ha : a ≤ 9223372036854775808) (hb : b ≤ 9223372036854775808) :
    Calls Try.prog 16 #[.int .u64 a, .int .u64 b] w fun e w' => e = .returned (.int .u64 (Nat.gcd a b)) ∧ ∃ k, w' = w.drewN k := by
  go_enter Try.func16, Try.ntmps16
  go_wp2
  go_loopw [0, 1] (fun x y wr => ∃ p q : Nat, x = .int .u64 p ∧ y = .int .u64 q ∧ p ≤ 9223372036854775808 ∧ q ≤ 9223372036854775808 ∧ Nat.gcd p q = Nat.gcd a b ∧ ∃ k, wr = w.drewN k) (fun _ y _ => (intOf y).toNat)
  case atStart => exact ⟨a, b, rfl, rfl, by omega, by omega, rfl, 0, rfl⟩
  case round =>
    obtain ⟨p, q, rfl, rfl, hp, hq, hg, k, rfl⟩ := hrel
    have HG := Lib.hid hg
    clear hg
    by_cases h0 : q = 0
    · subst h0
      go_wp2
      go_ret
      exact ⟨ret_int (by rw [← HG.out, Nat.gcd_zero_right]), k, rfl⟩
    · have h5 : (0 : Int) < (q : Int) := by omega
      clear h0
      have hm := Nat.mod_lt p (by omega : q > 0)
      have HE := Lib.hid (Int.natCast_emod p q)
      go_wp2
      go_quiet (fail)
      go_wp2
      go_roundw
      case rel => exact ⟨q, p % q, rfl, by rw [HE.out], by omega, by omega, by rw [gcd_step]; exact HG.out, _, drewN_drewN _ _ _⟩
      case measure => rw [← HE.out]; simp [intOf]; omega

set_option maxHeartbeats 800000 in
theorem impl_gcd (a b : Int) (w : World) (ha : -9223372036854775808 ≤ a) (ha2 : a ≤ 9223372036854775807) (hb : -9223372036854775808 ≤ b) (hb2 : b ≤ 9223372036854775807) :
    Calls Try.prog 23 #[.int .i64 a, .int .i64 b] w fun e w' => e = .returned (.int .i64 (gcdR a b)) ∧ ∃ k, w' = w.drewN k := by
  by_cases h1 : a = -9223372036854775808
  · subst h1
    rw [show gcdR (-9223372036854775808) b = 0 from if_pos (.inl rfl)]
    go_enter Try.func23, Try.ntmps23
    go_wp2
    go_ret
    exact ⟨rfl, 0, rfl⟩
  by_cases h2 : b = -9223372036854775808
  · subst h2
    rw [show gcdR a (-9223372036854775808) = 0 from if_pos (.inr rfl)]
    have h3 : (a == -9223372036854775808) = false := by simpa using h1
    clear h1
    go_enter Try.func23, Try.ntmps23
    go_wp2
    go_ret
    exact ⟨rfl, 0, rfl⟩
  rw [gcdR_of a b h1 h2]
  have h3 : (a == -9223372036854775808) = false := by simpa using h1
  have h4 : (b == -9223372036854775808) = false := by simpa using h2
  have h5 : a.natAbs ≤ 9223372036854775807 := by omega
  have h6 : b.natAbs ≤ 9223372036854775807 := by omega
  clear h1 h2
  go_enter Try.func23, Try.ntmps23
  go_wp2_with fail
  refine (magn a _ ha ha2).mono ?_
  rintro e w1 ⟨rfl, rfl⟩
  go_wp2_with fail
  refine (magn b _ hb hb2).mono ?_
  rintro e w1 ⟨rfl, rfl⟩
  go_wp2_with fail
  refine (gcd_mag a.natAbs b.natAbs _ (by omega) (by omega)).mono ?_
  rintro e w1 ⟨rfl, k, rfl⟩
  have hz : a.natAbs.gcd b.natAbs ≤ 9223372036854775807 := by
    by_cases h : 0 < a.natAbs
    · have := Nat.gcd_le_left b.natAbs h; omega
    · have : a.natAbs = 0 := by omega
      rw [this, Nat.gcd_zero_left]; omega
  show _
  have HI := Lib.hid (show Int.gcd a b = a.natAbs.gcd b.natAbs from rfl)
  generalize a.natAbs.gcd b.natAbs = g at *
  go_wp2_with fail
  go_ret
  exact ⟨ret_int (by rw [HI.out]), k, rfl⟩

theorem below_drewN (w : World) (k : Nat) : Below w.heap.size w (w.drewN k) := ⟨rfl, rfl, rfl, Nat.le_refl _, fun _ _ => rfl⟩

end Go.Proofs.Ytkodoedkdgldnab
