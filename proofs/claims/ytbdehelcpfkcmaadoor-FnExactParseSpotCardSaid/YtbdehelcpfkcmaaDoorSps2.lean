/- The walks of the model's ParseSpot at two fractions within the limits, over the translation. -/
import Derived.Test.YtbdehelcpfkcmaaDoorSps
namespace Go.Proofs.YtbdehelcpfkcmaaDoor
open Go.RowKit

theorem in_neg {n d : Int} {b : Bool} (h : inB n (-(1000 * d)) (1000 * d) = b) : inB n (-1000 * d) (1000 * d) = b := by
  rw [show -1000 * d = -(1000 * d) by omega]; exact h

set_option maxHeartbeats 1600000 in
theorem ss_lc (s x y : ByteArray) (n1 d1 n2 d2 : Int) (w : World)
    (HS : Hid (∀ W, Calls Tryd.prog 36 #[.string s, .string ⟨#[44]⟩] W fun e w' => ∃ g cap, e = .returned (.slice (some ⟨g, 0, none⟩) 2 cap) ∧ (∀ (j : Nat) u, [x, y][j]? = some u → w'.cell? ⟨g, j, none⟩ = some (.string u)) ∧ Below W.heap.size W w'))
    (HP1 : Hid (∀ W, Calls Tryd.prog 37 #[.string x] W fun e w' => e = .returned (.tuple #[.agg #[.int .i64 n1, .int .i64 d1], .bool true]) ∧ Below W.heap.size W w'))
    (HP2 : Hid (∀ W, Calls Tryd.prog 37 #[.string y] W fun e w' => e = .returned (.tuple #[.agg #[.int .i64 n2, .int .i64 d2], .bool true]) ∧ Below W.heap.size W w')) (k1 : d1 ≤ 5000000000) (k2 : d2 ≤ 5000000000) (u1 : 1 ≤ d1) (u2 : 1 ≤ d2)
    (G _A B R : Int) (_g0 : (G == 0) = false) (tB : d1.tdiv G = B) (_eB : d1 / G = B) (_eR : 5000000000 / d2 = R) (tR : (5000000000 : Int).tdiv d2 = R) (vB : IntKind.i64.wrap B = B) (vR : IntKind.i64.wrap R = R) (_d0 : (d2 == 0) = false) (_hB0 : 0 ≤ B) (_hB1 : B ≤ 5000000000) (_hR0 : 0 ≤ R) (_hR1 : R ≤ 5000000000) (hG0 : 0 < G) (hG1 : G ≤ 5000000000)
    (HG : Hid (∀ W, Calls Tryd.prog 38 #[.int .i64 d1, .int .i64 d2] W fun e w' => e = .returned (.int .i64 G) ∧ ∃ k, w' = W.drewN k)) (hl : R < B) :
    Calls Tryd.prog 17 #[.string s] w fun e w' => e = .returned (.tuple #[.agg #[.int .i64 0, .int .i64 0, .int .i64 0], .bool false]) ∧ Below w.heap.size w w' := by
  have H0 := has3_new w (.int .i64 0) (.int .i64 0) (.int .i64 0) 24
  have h0 := below_box w (.cells #[.int .i64 0, .int .i64 0, .int .i64 0] 24)
  go_enter Tryd.func17, Tryd.ntmps17
  go_wp2_with fail
  refine (HS.out _).mono ?_
  rintro e w1 ⟨g, cap, rfl, hcs, bl1⟩
  have c0 := hcs 0 x rfl
  have c1 := hcs 1 y rfl
  have hgl := block_lt_of_cell c0
  simp at hgl
  have h1 := below_to h0 bl1
  have H1 := has3_to bl1 H0
  clear hcs bl1 H0 h0
  go_wp2_with fail
  refine (HP1.out _).mono ?_
  rintro e w2 ⟨rfl, bl2⟩
  have c3 : w2.cell? ⟨g, 1, none⟩ = some (.string y) := by rw [bl2.cell hgl]; exact c1
  have hg2 : g < w2.heap.size := Nat.lt_of_lt_of_le hgl bl2.size
  have h2 := below_bx2 (below_to h1 bl2) (.cells #[.int .i64 n1, .int .i64 d1] 49)
  have H2 := has3_to (below_box _ (.cells #[.int .i64 n1, .int .i64 d1] 49)) (has3_to bl2 H1)
  have Q2 := has2_new w2 (.int .i64 n1) (.int .i64 d1) 49
  clear h1 H1 bl2 c0 c1 hgl
  go_wp2_with fail
  refine (HP2.out _).mono ?_
  rintro e w3 ⟨rfl, bl3⟩
  have h3b := below_to h2 bl3
  have h3 := below_bx2 h3b (.cells #[.int .i64 n2, .int .i64 d2] 49)
  have H3 := has3_to bl3 H2
  have Q3 := has2_to bl3 Q2
  have z3 := has3_lt H3
  clear h2 H2 bl3 Q2 c3 hg2
  have H4 := has3_to (below_box w3 (.cells #[.int .i64 n2, .int .i64 d2] 49)) H3
  have Q4 := has2_to (below_box w3 (.cells #[.int .i64 n2, .int .i64 d2] 49)) Q3
  have R4 := has2_new w3 (.int .i64 n2) (.int .i64 d2) 49
  obtain ⟨p0, p1⟩ := id Q3
  have z4 := has2_lt Q3
  clear H3 h3b
  go_wp2_with fail
  refine (HG.out _).mono ?_
  rintro e w4 ⟨rfl, k, rfl⟩
  have h5 := below_drew h3 k
  have H5 := has3_to (below_drew (Below.refl _ (w3.alloc (.cells #[.int .i64 n2, .int .i64 d2] 49))) k) H4
  have Q5 := has2_to (below_drew (Below.refl _ (w3.alloc (.cells #[.int .i64 n2, .int .i64 d2] 49))) k) Q4
  have R5 := has2_to (below_drew (Below.refl _ (w3.alloc (.cells #[.int .i64 n2, .int .i64 d2] 49))) k) R4
  generalize ((w3.alloc (.cells #[.int .i64 n2, .int .i64 d2] 49)).drewN k) = V at *
  clear H4 Q4 R4 p0 p1 z3 z4 Q3 h3
  obtain ⟨p0, p1⟩ := id Q5
  obtain ⟨q0, q1⟩ := id R5
  obtain ⟨r0, r1, r2, f0, f1, f2⟩ := id H5
  go_wp2_with fail
  go_quiet (fail)
  go_wp2_with fail
  refine bodyPost_ret (v := .tuple #[.agg #[.int .i64 0, .int .i64 0, .int .i64 0], .bool false]) (by simp [results, Tryd.results17, go_sem, r0, r1, r2]) rfl ⟨rfl, ?_⟩
  first
    | exact below_set3 _ _ _ (below_drew h5 _) (by omega)
    | exact below_set3 _ _ _ h5 (by omega)

set_option maxHeartbeats 1600000 in
theorem ss_out1 (s x y : ByteArray) (n1 d1 n2 d2 : Int) (w : World)
    (HS : Hid (∀ W, Calls Tryd.prog 36 #[.string s, .string ⟨#[44]⟩] W fun e w' => ∃ g cap, e = .returned (.slice (some ⟨g, 0, none⟩) 2 cap) ∧ (∀ (j : Nat) u, [x, y][j]? = some u → w'.cell? ⟨g, j, none⟩ = some (.string u)) ∧ Below W.heap.size W w'))
    (HP1 : Hid (∀ W, Calls Tryd.prog 37 #[.string x] W fun e w' => e = .returned (.tuple #[.agg #[.int .i64 n1, .int .i64 d1], .bool true]) ∧ Below W.heap.size W w'))
    (HP2 : Hid (∀ W, Calls Tryd.prog 37 #[.string y] W fun e w' => e = .returned (.tuple #[.agg #[.int .i64 n2, .int .i64 d2], .bool true]) ∧ Below W.heap.size W w')) (k1 : d1 ≤ 5000000000) (k2 : d2 ≤ 5000000000) (u1 : 1 ≤ d1) (u2 : 1 ≤ d2)
    (G _A B R : Int) (_g0 : (G == 0) = false) (tB : d1.tdiv G = B) (_eB : d1 / G = B) (_eR : 5000000000 / d2 = R) (tR : (5000000000 : Int).tdiv d2 = R) (vB : IntKind.i64.wrap B = B) (vR : IntKind.i64.wrap R = R) (_d0 : (d2 == 0) = false) (_hB0 : 0 ≤ B) (_hB1 : B ≤ 5000000000) (_hR0 : 0 ≤ R) (_hR1 : R ≤ 5000000000) (hG0 : 0 < G) (hG1 : G ≤ 5000000000)
    (HG : Hid (∀ W, Calls Tryd.prog 38 #[.int .i64 d1, .int .i64 d2] W fun e w' => e = .returned (.int .i64 G) ∧ ∃ k, w' = W.drewN k)) (hl : ¬ R < B) (L : Int) (eL : B * d2 = L) (hL0 : 1 ≤ L) (hL1 : L ≤ 5000000000) (HA : Hid (inB n1 (-1000 * d1) (1000 * d1) = false)) :
    Calls Tryd.prog 17 #[.string s] w fun e w' => e = .returned (.tuple #[.agg #[.int .i64 0, .int .i64 0, .int .i64 0], .bool false]) ∧ Below w.heap.size w w' := by
  have H0 := has3_new w (.int .i64 0) (.int .i64 0) (.int .i64 0) 24
  have h0 := below_box w (.cells #[.int .i64 0, .int .i64 0, .int .i64 0] 24)
  go_enter Tryd.func17, Tryd.ntmps17
  go_wp2_with fail
  refine (HS.out _).mono ?_
  rintro e w1 ⟨g, cap, rfl, hcs, bl1⟩
  have c0 := hcs 0 x rfl
  have c1 := hcs 1 y rfl
  have hgl := block_lt_of_cell c0
  simp at hgl
  have h1 := below_to h0 bl1
  have H1 := has3_to bl1 H0
  clear hcs bl1 H0 h0
  go_wp2_with fail
  refine (HP1.out _).mono ?_
  rintro e w2 ⟨rfl, bl2⟩
  have c3 : w2.cell? ⟨g, 1, none⟩ = some (.string y) := by rw [bl2.cell hgl]; exact c1
  have hg2 : g < w2.heap.size := Nat.lt_of_lt_of_le hgl bl2.size
  have h2 := below_bx2 (below_to h1 bl2) (.cells #[.int .i64 n1, .int .i64 d1] 49)
  have H2 := has3_to (below_box _ (.cells #[.int .i64 n1, .int .i64 d1] 49)) (has3_to bl2 H1)
  have Q2 := has2_new w2 (.int .i64 n1) (.int .i64 d1) 49
  clear h1 H1 bl2 c0 c1 hgl
  go_wp2_with fail
  refine (HP2.out _).mono ?_
  rintro e w3 ⟨rfl, bl3⟩
  have h3b := below_to h2 bl3
  have h3 := below_bx2 h3b (.cells #[.int .i64 n2, .int .i64 d2] 49)
  have H3 := has3_to bl3 H2
  have Q3 := has2_to bl3 Q2
  have z3 := has3_lt H3
  clear h2 H2 bl3 Q2 c3 hg2
  have H4 := has3_to (below_box w3 (.cells #[.int .i64 n2, .int .i64 d2] 49)) H3
  have Q4 := has2_to (below_box w3 (.cells #[.int .i64 n2, .int .i64 d2] 49)) Q3
  have R4 := has2_new w3 (.int .i64 n2) (.int .i64 d2) 49
  obtain ⟨p0, p1⟩ := id Q3
  have z4 := has2_lt Q3
  clear H3 h3b
  go_wp2_with fail
  refine (HG.out _).mono ?_
  rintro e w4 ⟨rfl, k, rfl⟩
  have h5 := below_drew h3 k
  have H5 := has3_to (below_drew (Below.refl _ (w3.alloc (.cells #[.int .i64 n2, .int .i64 d2] 49))) k) H4
  have Q5 := has2_to (below_drew (Below.refl _ (w3.alloc (.cells #[.int .i64 n2, .int .i64 d2] 49))) k) Q4
  have R5 := has2_to (below_drew (Below.refl _ (w3.alloc (.cells #[.int .i64 n2, .int .i64 d2] 49))) k) R4
  generalize ((w3.alloc (.cells #[.int .i64 n2, .int .i64 d2] 49)).drewN k) = V at *
  clear H4 Q4 R4 p0 p1 z3 z4 Q3 h3
  obtain ⟨p0, p1⟩ := id Q5
  obtain ⟨q0, q1⟩ := id R5
  obtain ⟨r0, r1, r2, f0, f1, f2⟩ := id H5
  go_wp2_with fail
  go_quiet (fail)
  clear p0 p1 q0 q1 r0 r1 r2 f0 f1 f2
  have h6 := below_drew h5 nq
  have H6 := has3_to (below_drew (Below.refl _ V) nq) H5
  have Q6 := has2_to (below_drew (Below.refl _ V) nq) Q5
  have R6 := has2_to (below_drew (Below.refl _ V) nq) R5
  generalize V.drewN nq = V2 at *
  clear h5 H5 Q5 R5
  obtain ⟨p0, p1⟩ := id Q6
  obtain ⟨q0, q1⟩ := id R6
  obtain ⟨r0, r1, r2, f0, f1, f2⟩ := id H6
  have vL : IntKind.i64.wrap L = L := IntWalk.i64_in _ (by omega)
  go_wp2_with fail
  go_quiet (fail)
  clear p0 p1 q0 q1 r0 r1 r2 f0 f1 f2
  have h7 := below_drew h6 nq
  have H7 := has3_to (below_drew (Below.refl _ V2) nq) H6
  have Q7 := has2_to (below_drew (Below.refl _ V2) nq) Q6
  have R7 := has2_to (below_drew (Below.refl _ V2) nq) R6
  generalize V2.drewN nq = V3 at *
  clear h6 H6 Q6 R6 vL
  obtain ⟨p0, p1⟩ := id Q7
  obtain ⟨q0, q1⟩ := id R7
  obtain ⟨r0, r1, r2, f0, f1, f2⟩ := id H7
  go_wp2_with fail
  refine (in_spec_is _ _ _ _ false HA.out).mono ?_
  rintro e w5 ⟨rfl, rfl⟩
  go_wp2_with fail
  refine bodyPost_ret (v := .tuple #[.agg #[.int .i64 0, .int .i64 0, .int .i64 0], .bool false]) (by simp [results, Tryd.results17, go_sem, r0, r1, r2]) rfl ⟨rfl, ?_⟩
  first
    | exact below_set3 _ _ _ (below_drew h7 _) (by omega)
    | exact below_set3 _ _ _ h7 (by omega)

set_option maxHeartbeats 1600000 in
theorem ss_out2 (s x y : ByteArray) (n1 d1 n2 d2 : Int) (w : World)
    (HS : Hid (∀ W, Calls Tryd.prog 36 #[.string s, .string ⟨#[44]⟩] W fun e w' => ∃ g cap, e = .returned (.slice (some ⟨g, 0, none⟩) 2 cap) ∧ (∀ (j : Nat) u, [x, y][j]? = some u → w'.cell? ⟨g, j, none⟩ = some (.string u)) ∧ Below W.heap.size W w'))
    (HP1 : Hid (∀ W, Calls Tryd.prog 37 #[.string x] W fun e w' => e = .returned (.tuple #[.agg #[.int .i64 n1, .int .i64 d1], .bool true]) ∧ Below W.heap.size W w'))
    (HP2 : Hid (∀ W, Calls Tryd.prog 37 #[.string y] W fun e w' => e = .returned (.tuple #[.agg #[.int .i64 n2, .int .i64 d2], .bool true]) ∧ Below W.heap.size W w')) (k1 : d1 ≤ 5000000000) (k2 : d2 ≤ 5000000000) (u1 : 1 ≤ d1) (u2 : 1 ≤ d2)
    (G _A B R : Int) (_g0 : (G == 0) = false) (tB : d1.tdiv G = B) (_eB : d1 / G = B) (_eR : 5000000000 / d2 = R) (tR : (5000000000 : Int).tdiv d2 = R) (vB : IntKind.i64.wrap B = B) (vR : IntKind.i64.wrap R = R) (_d0 : (d2 == 0) = false) (_hB0 : 0 ≤ B) (_hB1 : B ≤ 5000000000) (_hR0 : 0 ≤ R) (_hR1 : R ≤ 5000000000) (hG0 : 0 < G) (hG1 : G ≤ 5000000000)
    (HG : Hid (∀ W, Calls Tryd.prog 38 #[.int .i64 d1, .int .i64 d2] W fun e w' => e = .returned (.int .i64 G) ∧ ∃ k, w' = W.drewN k)) (hl : ¬ R < B) (L : Int) (eL : B * d2 = L) (hL0 : 1 ≤ L) (hL1 : L ≤ 5000000000) (HA : Hid (inB n1 (-1000 * d1) (1000 * d1) = true)) (HB : Hid (inB n2 (-1000 * d2) (1000 * d2) = false)) :
    Calls Tryd.prog 17 #[.string s] w fun e w' => e = .returned (.tuple #[.agg #[.int .i64 0, .int .i64 0, .int .i64 0], .bool false]) ∧ Below w.heap.size w w' := by
  have H0 := has3_new w (.int .i64 0) (.int .i64 0) (.int .i64 0) 24
  have h0 := below_box w (.cells #[.int .i64 0, .int .i64 0, .int .i64 0] 24)
  go_enter Tryd.func17, Tryd.ntmps17
  go_wp2_with fail
  refine (HS.out _).mono ?_
  rintro e w1 ⟨g, cap, rfl, hcs, bl1⟩
  have c0 := hcs 0 x rfl
  have c1 := hcs 1 y rfl
  have hgl := block_lt_of_cell c0
  simp at hgl
  have h1 := below_to h0 bl1
  have H1 := has3_to bl1 H0
  clear hcs bl1 H0 h0
  go_wp2_with fail
  refine (HP1.out _).mono ?_
  rintro e w2 ⟨rfl, bl2⟩
  have c3 : w2.cell? ⟨g, 1, none⟩ = some (.string y) := by rw [bl2.cell hgl]; exact c1
  have hg2 : g < w2.heap.size := Nat.lt_of_lt_of_le hgl bl2.size
  have h2 := below_bx2 (below_to h1 bl2) (.cells #[.int .i64 n1, .int .i64 d1] 49)
  have H2 := has3_to (below_box _ (.cells #[.int .i64 n1, .int .i64 d1] 49)) (has3_to bl2 H1)
  have Q2 := has2_new w2 (.int .i64 n1) (.int .i64 d1) 49
  clear h1 H1 bl2 c0 c1 hgl
  go_wp2_with fail
  refine (HP2.out _).mono ?_
  rintro e w3 ⟨rfl, bl3⟩
  have h3b := below_to h2 bl3
  have h3 := below_bx2 h3b (.cells #[.int .i64 n2, .int .i64 d2] 49)
  have H3 := has3_to bl3 H2
  have Q3 := has2_to bl3 Q2
  have z3 := has3_lt H3
  clear h2 H2 bl3 Q2 c3 hg2
  have H4 := has3_to (below_box w3 (.cells #[.int .i64 n2, .int .i64 d2] 49)) H3
  have Q4 := has2_to (below_box w3 (.cells #[.int .i64 n2, .int .i64 d2] 49)) Q3
  have R4 := has2_new w3 (.int .i64 n2) (.int .i64 d2) 49
  obtain ⟨p0, p1⟩ := id Q3
  have z4 := has2_lt Q3
  clear H3 h3b
  go_wp2_with fail
  refine (HG.out _).mono ?_
  rintro e w4 ⟨rfl, k, rfl⟩
  have h5 := below_drew h3 k
  have H5 := has3_to (below_drew (Below.refl _ (w3.alloc (.cells #[.int .i64 n2, .int .i64 d2] 49))) k) H4
  have Q5 := has2_to (below_drew (Below.refl _ (w3.alloc (.cells #[.int .i64 n2, .int .i64 d2] 49))) k) Q4
  have R5 := has2_to (below_drew (Below.refl _ (w3.alloc (.cells #[.int .i64 n2, .int .i64 d2] 49))) k) R4
  generalize ((w3.alloc (.cells #[.int .i64 n2, .int .i64 d2] 49)).drewN k) = V at *
  clear H4 Q4 R4 p0 p1 z3 z4 Q3 h3
  obtain ⟨p0, p1⟩ := id Q5
  obtain ⟨q0, q1⟩ := id R5
  obtain ⟨r0, r1, r2, f0, f1, f2⟩ := id H5
  go_wp2_with fail
  go_quiet (fail)
  clear p0 p1 q0 q1 r0 r1 r2 f0 f1 f2
  have h6 := below_drew h5 nq
  have H6 := has3_to (below_drew (Below.refl _ V) nq) H5
  have Q6 := has2_to (below_drew (Below.refl _ V) nq) Q5
  have R6 := has2_to (below_drew (Below.refl _ V) nq) R5
  generalize V.drewN nq = V2 at *
  clear h5 H5 Q5 R5
  obtain ⟨p0, p1⟩ := id Q6
  obtain ⟨q0, q1⟩ := id R6
  obtain ⟨r0, r1, r2, f0, f1, f2⟩ := id H6
  have vL : IntKind.i64.wrap L = L := IntWalk.i64_in _ (by omega)
  go_wp2_with fail
  go_quiet (fail)
  clear p0 p1 q0 q1 r0 r1 r2 f0 f1 f2
  have h7 := below_drew h6 nq
  have H7 := has3_to (below_drew (Below.refl _ V2) nq) H6
  have Q7 := has2_to (below_drew (Below.refl _ V2) nq) Q6
  have R7 := has2_to (below_drew (Below.refl _ V2) nq) R6
  generalize V2.drewN nq = V3 at *
  clear h6 H6 Q6 R6 vL
  obtain ⟨p0, p1⟩ := id Q7
  obtain ⟨q0, q1⟩ := id R7
  obtain ⟨r0, r1, r2, f0, f1, f2⟩ := id H7
  go_wp2_with fail
  refine (in_spec_is _ _ _ _ true HA.out).mono ?_
  rintro e w5 ⟨rfl, rfl⟩
  go_wp2_with fail
  refine (in_spec_is _ _ _ _ false HB.out).mono ?_
  rintro e w5 ⟨rfl, rfl⟩
  go_wp2_with fail
  refine bodyPost_ret (v := .tuple #[.agg #[.int .i64 0, .int .i64 0, .int .i64 0], .bool false]) (by simp [results, Tryd.results17, go_sem, r0, r1, r2]) rfl ⟨rfl, ?_⟩
  first
    | exact below_set3 _ _ _ (below_drew h7 _) (by omega)
    | exact below_set3 _ _ _ h7 (by omega)

end Go.Proofs.YtbdehelcpfkcmaaDoor
