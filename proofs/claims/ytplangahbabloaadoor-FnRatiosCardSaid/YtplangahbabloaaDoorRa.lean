/- Plain facts on two small fractions, and the contracts at them, for the law FnRatios. -/
import Derived.Test.YtplangahbabloaaDoorDr
import Derived.Test.YtplangahbabloaaDoorMin
import Derived.Test.YtplangahbabloaaDoorPr2
import Derived.Deep.RegionHeld3
namespace Go.Proofs.YtplangahbabloaaDoor
open Go.RowKit

theorem prod_bounds (N D : Int) (h0 : -200 ≤ N) (h1 : N ≤ 200) (h2 : 1 ≤ D) (h3 : D ≤ 12) : -2400 ≤ N * D ∧ N * D ≤ 2400 := by
  have a1 : N * D ≤ 200 * D := Int.mul_le_mul_of_nonneg_right h1 (by omega)
  have a2 : (-200) * D ≤ N * D := Int.mul_le_mul_of_nonneg_right h0 (by omega)
  omega
theorem cmp_neg {a b c d : Int} (h : a * d - c * b < 0) : cmpR a b c d = -1 := by unfold cmpR; rw [if_pos (by omega)]
theorem cmp_pos {a b c d : Int} (h : 0 < a * d - c * b) : cmpR a b c d = 1 := by unfold cmpR; rw [if_neg (by omega), if_pos (by omega)]
theorem cmp_zero {a b c d : Int} (h : a * d - c * b = 0) : cmpR a b c d = 0 := by unfold cmpR; rw [if_neg (by omega), if_neg (by omega)]
theorem cmp_self (a b : Int) : cmpR a b a b = 0 := by unfold cmpR; simp
theorem floor_facts (N D : Int) (hd : 1 ≤ D) : N / D * D ≤ N ∧ N < (N / D + 1) * D ∧ N - D < N / D * D := by
  have e := Int.mul_ediv_add_emod N D
  have h0 := Int.emod_nonneg N (by omega : D ≠ 0)
  have h1 := Int.emod_lt_of_pos N (by omega : 0 < D)
  rw [Int.add_mul, Int.mul_comm]
  omega
theorem min_max {a b c d : Int} (h1 : okR a b = true) (h2 : okR c d = true) : ∃ P Q : Int × Int, minP a b c d = P ∧ maxP a b c d = Q ∧ okR P.1 P.2 = true ∧ okR Q.1 Q.2 = true ∧ cmpR P.1 P.2 Q.1 Q.2 ≤ 0 := by
  refine ⟨_, _, rfl, rfl, ?_⟩
  have e1 : minP a b c d = if cmpR a b c d ≤ 0 then (a, b) else (c, d) := if_pos ⟨h1, h2⟩
  have e2 : maxP a b c d = if 0 ≤ cmpR a b c d then (a, b) else (c, d) := if_pos ⟨h1, h2⟩
  rw [e1, e2]
  by_cases h : cmpR a b c d ≤ 0
  · rw [if_pos h]
    by_cases h0 : 0 ≤ cmpR a b c d
    · rw [if_pos h0]; exact ⟨h1, h1, by rw [cmp_self]; omega⟩
    · rw [if_neg h0]; exact ⟨h1, h2, h⟩
  · rw [if_neg h, if_pos (by omega)]
    exact ⟨h2, h1, by show cmpR c d a b ≤ 0; rw [cmpR_swap]; omega⟩
theorem ok_bounds {n d : Int} (h : okR n d = true) : -9223372036854775808 ≤ n ∧ n ≤ 9223372036854775807 ∧ -9223372036854775808 ≤ d ∧ d ≤ 9223372036854775807 := by
  obtain ⟨q1, q2, q3, q4, _⟩ := (okR_iff _ _).1 h
  omega
theorem cmp_call {a b c d : Int} (h1 : okR a b = true) (h2 : okR c d = true) (w : World) : Calls Tryd.prog 8 #[.agg #[.int .i64 a, .int .i64 b], .agg #[.int .i64 c, .int .i64 d]] w fun e w' => e = .returned (.int .i64 (cmpR a b c d)) ∧ Below w.heap.size w w' := by
  obtain ⟨q1, q2, q3, q4⟩ := ok_bounds h1
  obtain ⟨q5, q6, q7, q8⟩ := ok_bounds h2
  have := impl_cmp a b c d w q1 q2 q3 q4 q5 q6 q7 q8
  rwa [cmpO_of h1 h2] at this
theorem of_call {N D k : Int} (h : okR N D = true) (hk : k ≠ 0) (h0 : -9223372036854775808 ≤ k * N) (h1 : k * N ≤ 9223372036854775807) (h2 : -9223372036854775808 ≤ k * D) (h3 : k * D ≤ 9223372036854775807) (w : World) :
    Calls Tryd.prog 15 #[.int .i64 (k * N), .int .i64 (k * D)] w fun e w' => e = .returned (.agg #[.int .i64 N, .int .i64 D]) ∧ Below w.heap.size w w' := by
  obtain ⟨s1, s2, s3, s4⟩ := scaled k N D hk h
  have := impl_of (k * N) (k * D) N _ _ w h0 h1 h2 h3 s4 s3 rfl rfl
  rwa [s2] at this
theorem of_neg {N D : Int} (h : okR N D = true) (w : World) :
    Calls Tryd.prog 15 #[.int .i64 (-N), .int .i64 (-D)] w fun e w' => e = .returned (.agg #[.int .i64 N, .int .i64 D]) ∧ Below w.heap.size w w' := by
  obtain ⟨q1, q2, q3, q4, _⟩ := (okR_iff _ _).1 h
  have := of_call (k := -1) h (by omega) (by omega) (by omega) (by omega) (by omega) w
  rwa [Int.neg_one_mul, Int.neg_one_mul] at this
theorem of_three {N D : Int} (h : okR N D = true) (w : World) :
    Calls Tryd.prog 15 #[.int .i64 (3 * N), .int .i64 (3 * D)] w fun e w' => e = .returned (.agg #[.int .i64 N, .int .i64 D]) ∧ Below w.heap.size w w' := by
  obtain ⟨q1, q2, q3, q4, _⟩ := (okR_iff _ _).1 h
  exact of_call (k := 3) h (by omega) (by omega) (by omega) (by omega) (by omega) w
theorem fmtR_len {N D : Int} (h : okR N D = true) : (str (fmtR N D)).size ≤ 43 := by
  obtain ⟨q1, q2, q3, q4⟩ := ok_bounds h
  have l1 := itoa_len N q1 q2
  have l2 := itoa_len D q3 q4
  rw [str_size]
  by_cases hd : D = 1
  · rw [fmtR_one h hd]; omega
  · rw [fmtR_two h hd]; simp; omega
theorem floor_all (N D : Int) (h : okR N D = true) (n0 : -200 ≤ N) (n1 : N ≤ 200) (d0 : 1 ≤ D) (d1 : D ≤ 12) : ∃ x, floR N D = x ∧ -1000000000000000000 ≤ x ∧ x ≤ 1000000000000000000 ∧ -300 ≤ x * D ∧ x * D ≤ N ∧ N < (x + 1) * D ∧ (x + 1) * D ≤ 300 := by
  obtain ⟨f1, f2, f3⟩ := floor_facts N D d0
  obtain ⟨r1, r2⟩ := floor_range N D (by omega) (by omega) (by omega)
  refine ⟨N / D, by unfold floR; rw [if_pos h], r1, r2, by omega, f1, f2, ?_⟩
  rw [Int.add_mul]; omega
theorem ceil_all (N D : Int) (h : okR N D = true) (n0 : -200 ≤ N) (n1 : N ≤ 200) (d0 : 1 ≤ D) (d1 : D ≤ 12) : ∃ x, ceiR N D = x ∧ -1000000000000000000 ≤ x ∧ x ≤ 1000000000000000000 ∧ -300 ≤ (x - 1) * D ∧ N ≤ x * D ∧ (x - 1) * D < N ∧ x * D ≤ 300 := by
  obtain ⟨f1, f2⟩ := ceil_eq N D (by omega) _ rfl
  obtain ⟨r1, r2⟩ := floor_range (-N) D (by omega) (by omega) (by omega)
  refine ⟨-((-N) / D), by unfold ceiR; rw [if_pos h], by omega, by omega, ?_, f1, f2, ?_⟩
  · rw [Int.sub_mul] at f2 ⊢; omega
  · rw [Int.sub_mul] at f2; omega
theorem sign_facts (N D M E : Int) : ∃ c, cmpR N D M E = c ∧ -1 ≤ c ∧ c ≤ 1 ∧ (decide (N * E - M * D < 0) == decide (c < 0)) = true ∧ (decide (0 < N * E - M * D) == decide (0 < c)) = true := by
  rcases Int.lt_trichotomy (N * E - M * D) 0 with h | h | h
  · exact ⟨-1, cmp_neg h, by omega, by omega, by rw [decide_eq_true h]; rfl, by rw [decide_eq_false (by omega)]; rfl⟩
  · exact ⟨0, cmp_zero h, by omega, by omega, by rw [decide_eq_false (by omega)]; rfl, by rw [decide_eq_false (by omega)]; rfl⟩
  · exact ⟨1, cmp_pos h, by omega, by omega, by rw [decide_eq_false (by omega)]; rfl, by rw [decide_eq_true h]; rfl⟩
end Go.Proofs.YtplangahbabloaaDoor
