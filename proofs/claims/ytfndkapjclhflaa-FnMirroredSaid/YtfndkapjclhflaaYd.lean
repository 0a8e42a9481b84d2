/- The model's sum of two fractions, in full, over the translation. -/
import Derived.Test.YtfndkapjclhflaaYc
namespace Go.Proofs.Ytfndkapjclhflaa
open Go.RowKit Go.Shelf

theorem lp_quo {a d : Int} (hd : 1 ≤ d) : decide ((9000000000000000000 : Int).tdiv d < max a (-a)) = !lpB a d := by
  unfold lpB
  have e : max a (-a) = (a.natAbs : Int) := by omega
  obtain ⟨k, rfl⟩ : ∃ k : Nat, d = (k : Int) := ⟨d.toNat, by omega⟩
  have hk : 0 < k := by omega
  rw [e, Int.natAbs_natCast, show (9000000000000000000 : Int).tdiv (k : Int) = ((9000000000000000000 / k : Nat) : Int) from (Int.ofNat_tdiv 9000000000000000000 k).symm]
  rw [Bool.eq_iff_iff]
  simp only [decide_eq_true_eq, Bool.not_eq_true', decide_eq_false_iff_not]
  rw [← Nat.le_div_iff_mul_le hk]
  omega
theorem lp_quo1 {a d : Int} (hd : 1 ≤ d) (ha : 1 ≤ a) : decide ((9000000000000000000 : Int).tdiv d < a) = !lpB a d := by
  rw [← lp_quo hd, show max a (-a) = a by omega]
theorem quo_rng {d : Int} (hd : 1 ≤ d) : 0 ≤ (9000000000000000000 : Int).tdiv d ∧ (9000000000000000000 : Int).tdiv d ≤ 9000000000000000000 := by
  obtain ⟨k, rfl⟩ : ∃ k : Nat, d = (k : Int) := ⟨d.toNat, by omega⟩
  rw [show (9000000000000000000 : Int).tdiv (k : Int) = ((9000000000000000000 / k : Nat) : Int) from (Int.ofNat_tdiv 9000000000000000000 k).symm]
  have := Nat.div_le_self 9000000000000000000 k
  generalize 9000000000000000000 / k = m at *
  omega
end Go.Proofs.Ytfndkapjclhflaa
