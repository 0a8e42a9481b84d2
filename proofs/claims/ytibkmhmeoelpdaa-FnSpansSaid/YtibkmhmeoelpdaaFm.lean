/- Spans as sets of fractions: meets, picked inputs and whole numbers (no calls). -/
import Derived.Test.YtibkmhmeoelpdaaFb
import Derived.Test.YtibkmhmeoelpdaaFw
namespace Go.Proofs.Ytibkmhmeoelpdaa
open Go.RowKit
open Geo (H3)

theorem pos_le0 {k v : Int} (hk : 0 < k) (h : k * v ≤ 0) : v ≤ 0 := by
  rcases Int.lt_or_le 0 v with q | q
  · have := Int.mul_pos hk q
    omega
  · exact q
theorem cmp_0 {a b c d : Int} : cmpR a b c d ≤ 0 ↔ a * d ≤ c * b := by
  unfold cmpR
  split
  · omega
  · split <;> omega
theorem cmp_00 {a b c d : Int} : 0 ≤ cmpR a b c d ↔ c * b ≤ a * d := by
  unfold cmpR
  split
  · omega
  · split <;> omega
theorem okR_pos {a b : Int} (h : okR a b = true) : 1 ≤ b := ((okR_iff _ _).1 h).1
theorem spn_iff {a b c d : Int} : spnB a b c d = true ↔ okR a b = true ∧ okR c d = true ∧ a * d ≤ c * b := by
  unfold spnB
  simp only [Bool.and_eq_true, decide_eq_true_eq, cmp_0, and_assoc]
theorem isp_iff {a b c d n m : Int} : ispB a b c d n m = true ↔ spnB a b c d = true ∧ okR n m = true ∧ a * m ≤ n * b ∧ n * d ≤ c * m := by
  unfold ispB
  simp only [Bool.and_eq_true, decide_eq_true_eq, cmp_0, and_assoc]
/-- a/b at most c/d and c/d at most e/f -/
theorem fr_trans {a b c d e f : Int} (hb : 1 ≤ b) (hd : 1 ≤ d) (hf : 1 ≤ f) (h : a * d ≤ c * b) (k : c * f ≤ e * d) : a * f ≤ e * b := by
  refine Int.le_of_sub_nonpos (pos_le0 (k := d) (by omega) ?_)
  have r1 := Int.mul_le_mul_of_nonneg_right h (show 0 ≤ f by omega)
  have r2 := Int.mul_le_mul_of_nonneg_right k (show 0 ≤ b by omega)
  have e1 : d * (a * f - e * b) = (a * d * f - c * b * f) + (c * f * b - e * d * b) := by grind
  rw [e1]
  omega
theorem fr_eq {a b c d : Int} (h : okR a b = true) (k : okR c d = true) (e : a * d = c * b) : a = c ∧ b = d := by
  obtain ⟨b1, _, _, _, g1⟩ := (okR_iff _ _).1 h
  obtain ⟨d1, _, _, _, g2⟩ := (okR_iff _ _).1 k
  have key : ∀ x y z : Int, Int.gcd x y = 1 → y ∣ x * z → y ∣ z := by
    intro x y z g h
    have h2 := Int.natAbs_dvd_natAbs.2 h
    rw [Int.natAbs_mul] at h2
    have g2 : Nat.Coprime y.natAbs x.natAbs := by
      unfold Nat.Coprime
      rw [Nat.gcd_comm]
      exact g
    exact Int.natAbs_dvd_natAbs.1 (g2.dvd_of_dvd_mul_left h2)
  have p1 : b ∣ d := key a b d g1 ⟨c, by rw [e, Int.mul_comm]⟩
  have p2 : d ∣ b := key c d b g2 ⟨a, by rw [← e, Int.mul_comm]⟩
  have e1 : b = d := Int.dvd_antisymm (by omega) (by omega) p1 p2
  subst e1
  exact ⟨Int.eq_of_mul_eq_mul_right (by omega) e, rfl⟩
theorem minF_le {a b c d k m : Int} (h : okR a b = true) (g : okR c d = true) (hk : 0 < k) : okR (minP a b c d).1 (minP a b c d).2 = true ∧ (m * (minP a b c d).2 ≤ (minP a b c d).1 * k ↔ m * b ≤ a * k ∧ m * d ≤ c * k) := by
  have p1 := ((okR_iff _ _).1 h).1
  have p2 := ((okR_iff _ _).1 g).1
  have key : ∀ a b c d : Int, 1 ≤ b → 1 ≤ d → a * d ≤ c * b → m * b ≤ a * k → m * d ≤ c * k := by
    intro a b c d hb hd q r
    refine Int.le_of_sub_nonpos ?_
    refine pos_le0 (k := b) (by omega) ?_
    have r1 := Int.mul_le_mul_of_nonneg_right r (show 0 ≤ d by omega)
    have r2 := Int.mul_le_mul_of_nonneg_right q (Int.le_of_lt hk)
    have e : b * (m * d - c * k) = (m * b * d - a * k * d) + (a * d * k - c * b * k) := by grind
    rw [e]
    omega
  unfold minP
  rw [if_pos ⟨h, g⟩]
  unfold cmpR
  by_cases q : a * d < c * b
  · rw [if_pos q, if_pos (by omega)]
    exact ⟨h, fun r => ⟨r, key a b c d p1 p2 (Int.le_of_lt q) r⟩, fun r => r.1⟩
  · rw [if_neg q]
    by_cases q2 : c * b < a * d
    · rw [if_pos q2, if_neg (by omega)]
      exact ⟨g, fun r => ⟨key c d a b p2 p1 (Int.le_of_lt q2) r, r⟩, fun r => r.2⟩
    · rw [if_neg q2, if_pos (by omega)]
      exact ⟨h, fun r => ⟨r, key a b c d p1 p2 (by omega) r⟩, fun r => r.1⟩
theorem maxF_ge {a b c d k m : Int} (h : okR a b = true) (g : okR c d = true) (hk : 0 < k) : okR (maxP a b c d).1 (maxP a b c d).2 = true ∧ ((maxP a b c d).1 * k ≤ m * (maxP a b c d).2 ↔ a * k ≤ m * b ∧ c * k ≤ m * d) := by
  have p1 := ((okR_iff _ _).1 h).1
  have p2 := ((okR_iff _ _).1 g).1
  have key : ∀ a b c d : Int, 1 ≤ b → 1 ≤ d → c * b ≤ a * d → a * k ≤ m * b → c * k ≤ m * d := by
    intro a b c d hb hd q r
    refine Int.le_of_sub_nonpos ?_
    refine pos_le0 (k := b) (by omega) ?_
    have r1 := Int.mul_le_mul_of_nonneg_right r (show 0 ≤ d by omega)
    have r2 := Int.mul_le_mul_of_nonneg_right q (Int.le_of_lt hk)
    have e : b * (c * k - m * d) = (a * k * d - m * b * d) + (c * b * k - a * d * k) := by grind
    rw [e]
    omega
  unfold maxP
  rw [if_pos ⟨h, g⟩]
  unfold cmpR
  by_cases q : a * d < c * b
  · rw [if_pos q, if_neg (by omega)]
    exact ⟨g, fun r => ⟨key c d a b p2 p1 (Int.le_of_lt q) r, r⟩, fun r => r.2⟩
  · rw [if_neg q]
    have e : (0 : Int) ≤ (if c * b < a * d then 1 else 0) := by split <;> omega
    rw [if_pos e]
    exact ⟨h, fun r => ⟨r, key a b c d p1 p2 (by omega) r⟩, fun r => r.1⟩
theorem min_comm' {a b c d : Int} (h : okR a b = true) (k : okR c d = true) : minP a b c d = minP c d a b := by
  have e1 : minP a b c d = if cmpR a b c d ≤ 0 then (a, b) else (c, d) := by unfold minP; rw [if_pos ⟨h, k⟩]
  have e2 : minP c d a b = if cmpR c d a b ≤ 0 then (c, d) else (a, b) := by unfold minP; rw [if_pos ⟨k, h⟩]
  rw [e1, e2]
  by_cases p : cmpR a b c d ≤ 0
  · rw [if_pos p]
    by_cases q : cmpR c d a b ≤ 0
    · rw [if_pos q]
      obtain ⟨e1, e2⟩ := fr_eq h k (by have := cmp_0.1 p; have := cmp_0.1 q; omega)
      rw [e1, e2]
    · rw [if_neg q]
  · rw [if_neg p, if_pos (cmp_0.2 (Int.le_of_lt (Int.not_le.1 (fun z => p (cmp_0.2 z)))))]
theorem max_comm' {a b c d : Int} (h : okR a b = true) (k : okR c d = true) : maxP a b c d = maxP c d a b := by
  have e1 : maxP a b c d = if 0 ≤ cmpR a b c d then (a, b) else (c, d) := by unfold maxP; rw [if_pos ⟨h, k⟩]
  have e2 : maxP c d a b = if 0 ≤ cmpR c d a b then (c, d) else (a, b) := by unfold maxP; rw [if_pos ⟨k, h⟩]
  rw [e1, e2]
  by_cases p : 0 ≤ cmpR a b c d
  · rw [if_pos p]
    by_cases q : 0 ≤ cmpR c d a b
    · rw [if_pos q]
      obtain ⟨e1, e2⟩ := fr_eq h k (by have := cmp_00.1 p; have := cmp_00.1 q; omega)
      rw [e1, e2]
    · rw [if_neg q]
  · rw [if_neg p, if_pos (cmp_00.2 (Int.le_of_lt (Int.not_le.1 (fun z => p (cmp_00.2 z)))))]
theorem max_no {a b c d : Int} (h : ¬ (okR a b = true ∧ okR c d = true)) : maxP a b c d = (0, 0) := by unfold maxP; rw [if_neg h]
theorem min_no {a b c d : Int} (h : ¬ (okR a b = true ∧ okR c d = true)) : minP a b c d = (0, 0) := by unfold minP; rw [if_neg h]
theorem ok_00 : okR 0 0 = false := by
  rw [Bool.eq_false_iff]
  intro h
  have := okR_pos h
  omega
/-- the meet's ends are in order only if both spans' ends are -/
theorem msp_eq (a b c d p q r s : Int) : mspB a b c d p q r s = spnB (maxP a b p q).1 (maxP a b p q).2 (minP c d r s).1 (minP c d r s).2 := by
  unfold mspB
  cases h : spnB (maxP a b p q).1 (maxP a b p q).2 (minP c d r s).1 (minP c d r s).2 with
  | false => rw [Bool.and_false]
  | true =>
    rw [Bool.and_true]
    obtain ⟨o1, o2, le⟩ := spn_iff.1 h
    have k1 : okR a b = true ∧ okR p q = true := by
      rcases Classical.em (okR a b = true ∧ okR p q = true) with k | k
      · exact k
      · rw [max_no k] at o1
        rw [ok_00] at o1
        cases o1
    have k2 : okR c d = true ∧ okR r s = true := by
      rcases Classical.em (okR c d = true ∧ okR r s = true) with k | k
      · exact k
      · rw [min_no k] at o2
        rw [ok_00] at o2
        cases o2
    have P1 := okR_pos o1
    have P2 := okR_pos o2
    obtain ⟨_, m1⟩ := maxF_ge (k := (maxP a b p q).2) (m := (maxP a b p q).1) k1.1 k1.2 (by omega)
    obtain ⟨_, m2⟩ := minF_le (k := (minP c d r s).2) (m := (minP c d r s).1) k2.1 k2.2 (by omega)
    obtain ⟨u1, u2⟩ := m1.1 (Int.le_refl _)
    obtain ⟨v1, v2⟩ := m2.1 (Int.le_refl _)
    have t1 : spnB a b c d = true := spn_iff.2 ⟨k1.1, k2.1, fr_trans (okR_pos k1.1) P2 (okR_pos k2.1) (fr_trans (okR_pos k1.1) P1 P2 u1 le) v1⟩
    have t2 : spnB p q r s = true := spn_iff.2 ⟨k1.2, k2.2, fr_trans (okR_pos k1.2) P2 (okR_pos k2.2) (fr_trans (okR_pos k1.2) P1 P2 u2 le) v2⟩
    rw [t1, t2]
    rfl
theorem cei_le {a b n : Int} (h : okR a b = true) : ceiR a b ≤ n ↔ a ≤ n * b := by
  have p := okR_pos h
  unfold ceiR
  rw [if_pos h]
  have := Int.le_ediv_iff_mul_le (a := -n) (b := -a) (c := b) (by omega)
  rw [Int.neg_mul] at this
  omega
theorem flo_ge {c d n : Int} (h : okR c d = true) : n ≤ floR c d ↔ n * d ≤ c := by
  have p := okR_pos h
  unfold floR
  rw [if_pos h]
  exact Int.le_ediv_iff_mul_le (by omega)
theorem one_ok {n : Int} (h : -1000 ≤ n ∧ n ≤ 1000) : okR n 1 = true := (one_of (n := n) (by omega)).2.2
theorem isp_one {a b c d n : Int} (h : spnB a b c d = true) (hn : -1000 ≤ n ∧ n ≤ 1000) : ispB a b c d n 1 = true ↔ ceiR a b ≤ n ∧ n ≤ floR c d := by
  obtain ⟨o1, o2, _⟩ := spn_iff.1 h
  rw [isp_iff, cei_le o1, flo_ge o2]
  constructor
  · rintro ⟨_, _, x, y⟩; omega
  · rintro ⟨x, y⟩; exact ⟨h, one_ok hn, by omega, by omega⟩
/-- the program's way to the picked input, no whole number -/
theorem pin_a {a b c d wish n : Int} (h : spnB a b c d = true) (hn : n = clpI wish (-1000) 1000) (l : floR c d < ceiR a b) : pinP a b c d wish = minP (maxP n 1 a b).1 (maxP n 1 a b).2 c d := by
  have hb : -1000 ≤ n ∧ n ≤ 1000 := by rw [hn]; unfold clpI; omega
  obtain ⟨o1, o2, _⟩ := spn_iff.1 h
  have k : ispB a b c d n 1 = false := by
    rw [Bool.eq_false_iff]
    intro q
    have := (isp_one h hb).1 q
    omega
  rw [hn] at k
  rw [pin_3 h k (by omega), ← hn, max_comm' o1 (one_ok hb)]
  exact min_comm' o2 (maxF_ge (k := 1) (m := 0) (one_ok hb) o1 (by omega)).1
theorem pin_b {a b c d wish n : Int} (h : spnB a b c d = true) (hn : n = clpI wish (-1000) 1000) (l : ceiR a b ≤ floR c d) : pinP a b c d wish = (min (max n (ceiR a b)) (floR c d), 1) := by
  have hb : -1000 ≤ n ∧ n ≤ 1000 := by rw [hn]; unfold clpI; omega
  cases k : ispB a b c d n 1 with
  | true =>
    have := (isp_one h hb).1 k
    rw [hn] at k
    rw [pin_1 h k, ← hn]
    congr 1
    omega
  | false =>
    rw [hn] at k
    rw [pin_2 h k l, ← hn]
    unfold clpI
    congr 1
    omega
theorem who_in {a b c d : Int} (h : spnB a b c d = true) (k : ispB (-1000) 1 1000 1 a b = true) (l : ispB (-1000) 1 1000 1 c d = true) : whoP a b c d = floR c d - ceiR a b + 1 := by
  obtain ⟨_, o1, x1, _⟩ := isp_iff.1 k
  obtain ⟨_, o2, _, y2⟩ := isp_iff.1 l
  obtain ⟨_, _, le⟩ := spn_iff.1 h
  rw [who_yes h (by have := (cmp_00 (a := a) (b := b) (c := -1000) (d := 1)).2 (by omega); omega) (by have := (cmp_0 (a := c) (b := d) (c := 1000) (d := 1)).2 (by omega); omega)]
  have : ceiR a b ≤ floR c d + 1 := by
    rw [cei_le o1]
    have q : ¬ (floR c d + 1) ≤ floR c d := by omega
    rw [flo_ge o2] at q
    have b1 := okR_pos o1
    have d1 := okR_pos o2
    have : a * 1 ≤ (floR c d + 1) * b := fr_trans b1 d1 (by omega) le (by omega)
    omega
  omega
theorem who_out {a b c d : Int} (h : ¬ (spnB a b c d = true ∧ ispB (-1000) 1 1000 1 a b = true ∧ ispB (-1000) 1 1000 1 c d = true)) : whoP a b c d = 0 := by
  refine who_no fun ⟨s, x, y⟩ => h ⟨s, ?_, ?_⟩
  all_goals
    obtain ⟨o1, o2, le⟩ := spn_iff.1 s
    have x' := (cmp_00 (a := a) (b := b) (c := -1000) (d := 1)).1 (by omega)
    have y' := (cmp_0 (a := c) (b := d) (c := 1000) (d := 1)).1 (by omega)
    have b1 := okR_pos o1
    have d1 := okR_pos o2
    have s1 : spnB (-1000) 1 1000 1 = true := by decide
  · exact isp_iff.2 ⟨s1, o1, by omega, fr_trans b1 d1 (by omega) le (by omega)⟩
  · exact isp_iff.2 ⟨s1, o2, fr_trans (by omega) b1 d1 (by omega) le, by omega⟩
end Go.Proofs.Ytibkmhmeoelpdaa
