/- The walks of the model's ParseSpot where it answers the zero value, over the translation. -/
import Derived.Test.YtbdehelcpfkcmaaDoorIps2
import Derived.Test.YtbdehelcpfkcmaaDoorPs2
import Derived.Test.YtbdehelcpfkcmaaDoorHll
namespace Go.Proofs.YtbdehelcpfkcmaaDoor
open Go.RowKit


set_option maxHeartbeats 1600000 in
theorem ss_no1 (s x y : ByteArray) (n1 d1 n2 d2 : Int) (b2 : Bool) (w : World)
    (HS : Hid (∀ W, Calls Tryd.prog 36 #[.string s, .string ⟨#[44]⟩] W fun e w' => ∃ g cap, e = .returned (.slice (some ⟨g, 0, none⟩) 2 cap) ∧ (∀ (j : Nat) u, [x, y][j]? = some u → w'.cell? ⟨g, j, none⟩ = some (.string u)) ∧ Below W.heap.size W w'))
    (HP1 : Hid (∀ W, Calls Tryd.prog 37 #[.string x] W fun e w' => e = .returned (.tuple #[.agg #[.int .i64 n1, .int .i64 d1], .bool false]) ∧ Below W.heap.size W w'))
    (HP2 : Hid (∀ W, Calls Tryd.prog 37 #[.string y] W fun e w' => e = .returned (.tuple #[.agg #[.int .i64 n2, .int .i64 d2], .bool b2]) ∧ Below W.heap.size W w')) :
    Calls Tryd.prog 17 #[.string s] w fun e w' => e = .returned (.tuple #[.agg #[.int .i64 0, .int .i64 0, .int .i64 0], .bool false]) ∧ Below w.heap.size w w' := by
  have H0 := has3_new w (.int .i64 0) (.int .i64 0) (.int .i64 0) 24
  have h0 := below_box w (.cells #[.int .i64 0, .int .i64 0, .int .i64 0] 24)
  go_enter Tryd.func17, Tryd.ntmps17
  go_wp2_with fail
  refine (HS.out _).mono ?_
  rintro e w1 ⟨g, cap, rfl, hcs, bl1⟩
  have c0 := hcs 0 x rfl
  have c1 := hcs 1 y rfl
  have hgl := block_lt_of_cell c0
  simp at hgl
  have h1 := below_to h0 bl1
  have H1 := has3_to bl1 H0
  clear hcs bl1 H0 h0
  go_wp2_with fail
  refine (HP1.out _).mono ?_
  rintro e w2 ⟨rfl, bl2⟩
  have c3 : w2.cell? ⟨g, 1, none⟩ = some (.string y) := by rw [bl2.cell hgl]; exact c1
  have hg2 : g < w2.heap.size := Nat.lt_of_lt_of_le hgl bl2.size
  have h2 := below_bx2 (below_to h1 bl2) (.cells #[.int .i64 n1, .int .i64 d1] 49)
  have H2 := has3_to (below_box _ (.cells #[.int .i64 n1, .int .i64 d1] 49)) (has3_to bl2 H1)
  have Q2 := has2_new w2 (.int .i64 n1) (.int .i64 d1) 49
  clear h1 H1 bl2 c0 c1 hgl
  go_wp2_with fail
  refine (HP2.out _).mono ?_
  rintro e w3 ⟨rfl, bl3⟩
  have h3b := below_to h2 bl3
  have h3 := below_bx2 h3b (.cells #[.int .i64 n2, .int .i64 d2] 49)
  have H3 := has3_to bl3 H2
  have Q3 := has2_to bl3 Q2
  have z3 := has3_lt H3
  clear h2 H2 bl3 Q2 c3 hg2
  obtain ⟨r0, r1, r2, f0, f1, f2⟩ := id H3
  obtain ⟨p0, p1⟩ := id Q3
  have z4 := has2_lt Q3
  go_wp2_with fail
  refine bodyPost_ret (v := .tuple #[.agg #[.int .i64 0, .int .i64 0, .int .i64 0], .bool false]) (by simp [results, Tryd.results17, go_sem, r0, r1, r2, z3]) rfl ⟨rfl, ?_⟩
  first
    | exact below_set3 _ _ _ h3 (by omega)
    | exact below_bx2 (below_set3 _ _ _ h3b (by omega)) _

set_option maxHeartbeats 1600000 in
theorem ss_no2 (s x y : ByteArray) (n1 d1 n2 d2 : Int) (w : World)
    (HS : Hid (∀ W, Calls Tryd.prog 36 #[.string s, .string ⟨#[44]⟩] W fun e w' => ∃ g cap, e = .returned (.slice (some ⟨g, 0, none⟩) 2 cap) ∧ (∀ (j : Nat) u, [x, y][j]? = some u → w'.cell? ⟨g, j, none⟩ = some (.string u)) ∧ Below W.heap.size W w'))
    (HP1 : Hid (∀ W, Calls Tryd.prog 37 #[.string x] W fun e w' => e = .returned (.tuple #[.agg #[.int .i64 n1, .int .i64 d1], .bool true]) ∧ Below W.heap.size W w'))
    (HP2 : Hid (∀ W, Calls Tryd.prog 37 #[.string y] W fun e w' => e = .returned (.tuple #[.agg #[.int .i64 n2, .int .i64 d2], .bool false]) ∧ Below W.heap.size W w')) :
    Calls Tryd.prog 17 #[.string s] w fun e w' => e = .returned (.tuple #[.agg #[.int .i64 0, .int .i64 0, .int .i64 0], .bool false]) ∧ Below w.heap.size w w' := by
  have H0 := has3_new w (.int .i64 0) (.int .i64 0) (.int .i64 0) 24
  have h0 := below_box w (.cells #[.int .i64 0, .int .i64 0, .int .i64 0] 24)
  go_enter Tryd.func17, Tryd.ntmps17
  go_wp2_with fail
  refine (HS.out _).mono ?_
  rintro e w1 ⟨g, cap, rfl, hcs, bl1⟩
  have c0 := hcs 0 x rfl
  have c1 := hcs 1 y rfl
  have hgl := block_lt_of_cell c0
  simp at hgl
  have h1 := below_to h0 bl1
  have H1 := has3_to bl1 H0
  clear hcs bl1 H0 h0
  go_wp2_with fail
  refine (HP1.out _).mono ?_
  rintro e w2 ⟨rfl, bl2⟩
  have c3 : w2.cell? ⟨g, 1, none⟩ = some (.string y) := by rw [bl2.cell hgl]; exact c1
  have hg2 : g < w2.heap.size := Nat.lt_of_lt_of_le hgl bl2.size
  have h2 := below_bx2 (below_to h1 bl2) (.cells #[.int .i64 n1, .int .i64 d1] 49)
  have H2 := has3_to (below_box _ (.cells #[.int .i64 n1, .int .i64 d1] 49)) (has3_to bl2 H1)
  have Q2 := has2_new w2 (.int .i64 n1) (.int .i64 d1) 49
  clear h1 H1 bl2 c0 c1 hgl
  go_wp2_with fail
  refine (HP2.out _).mono ?_
  rintro e w3 ⟨rfl, bl3⟩
  have h3b := below_to h2 bl3
  have h3 := below_bx2 h3b (.cells #[.int .i64 n2, .int .i64 d2] 49)
  have H3 := has3_to bl3 H2
  have Q3 := has2_to bl3 Q2
  have z3 := has3_lt H3
  clear h2 H2 bl3 Q2 c3 hg2
  obtain ⟨r0, r1, r2, f0, f1, f2⟩ := id H3
  obtain ⟨p0, p1⟩ := id Q3
  have z4 := has2_lt Q3
  go_wp2_with fail
  refine bodyPost_ret (v := .tuple #[.agg #[.int .i64 0, .int .i64 0, .int .i64 0], .bool false]) (by simp [results, Tryd.results17, go_sem, r0, r1, r2, z3]) rfl ⟨rfl, ?_⟩
  first
    | exact below_set3 _ _ _ h3 (by omega)
    | exact below_bx2 (below_set3 _ _ _ h3b (by omega)) _

set_option maxHeartbeats 1600000 in
theorem ss_big1 (s x y : ByteArray) (n1 d1 n2 d2 : Int) (w : World)
    (HS : Hid (∀ W, Calls Tryd.prog 36 #[.string s, .string ⟨#[44]⟩] W fun e w' => ∃ g cap, e = .returned (.slice (some ⟨g, 0, none⟩) 2 cap) ∧ (∀ (j : Nat) u, [x, y][j]? = some u → w'.cell? ⟨g, j, none⟩ = some (.string u)) ∧ Below W.heap.size W w'))
    (HP1 : Hid (∀ W, Calls Tryd.prog 37 #[.string x] W fun e w' => e = .returned (.tuple #[.agg #[.int .i64 n1, .int .i64 d1], .bool true]) ∧ Below W.heap.size W w'))
    (HP2 : Hid (∀ W, Calls Tryd.prog 37 #[.string y] W fun e w' => e = .returned (.tuple #[.agg #[.int .i64 n2, .int .i64 d2], .bool true]) ∧ Below W.heap.size W w')) (k1 : 5000000000 < d1) :
    Calls Tryd.prog 17 #[.string s] w fun e w' => e = .returned (.tuple #[.agg #[.int .i64 0, .int .i64 0, .int .i64 0], .bool false]) ∧ Below w.heap.size w w' := by
  have H0 := has3_new w (.int .i64 0) (.int .i64 0) (.int .i64 0) 24
  have h0 := below_box w (.cells #[.int .i64 0, .int .i64 0, .int .i64 0] 24)
  go_enter Tryd.func17, Tryd.ntmps17
  go_wp2_with fail
  refine (HS.out _).mono ?_
  rintro e w1 ⟨g, cap, rfl, hcs, bl1⟩
  have c0 := hcs 0 x rfl
  have c1 := hcs 1 y rfl
  have hgl := block_lt_of_cell c0
  simp at hgl
  have hh1 := below_to h0 bl1
  have H1 := has3_to bl1 H0
  clear hcs bl1 H0 h0
  go_wp2_with fail
  refine (HP1.out _).mono ?_
  rintro e w2 ⟨rfl, bl2⟩
  have c3 : w2.cell? ⟨g, 1, none⟩ = some (.string y) := by rw [bl2.cell hgl]; exact c1
  have hg2 : g < w2.heap.size := Nat.lt_of_lt_of_le hgl bl2.size
  have h2 := below_bx2 (below_to hh1 bl2) (.cells #[.int .i64 n1, .int .i64 d1] 49)
  have H2 := has3_to (below_box _ (.cells #[.int .i64 n1, .int .i64 d1] 49)) (has3_to bl2 H1)
  have Q2 := has2_new w2 (.int .i64 n1) (.int .i64 d1) 49
  clear hh1 H1 bl2 c0 c1 hgl
  go_wp2_with fail
  refine (HP2.out _).mono ?_
  rintro e w3 ⟨rfl, bl3⟩
  have h3b := below_to h2 bl3
  have h3 := below_bx2 h3b (.cells #[.int .i64 n2, .int .i64 d2] 49)
  have H3 := has3_to bl3 H2
  have Q3 := has2_to bl3 Q2
  have z3 := has3_lt H3
  clear h2 H2 bl3 Q2 c3 hg2
  obtain ⟨r0, r1, r2, f0, f1, f2⟩ := id H3
  obtain ⟨p0, p1⟩ := id Q3
  have z4 := has2_lt Q3
  go_wp2_with fail
  refine bodyPost_ret (v := .tuple #[.agg #[.int .i64 0, .int .i64 0, .int .i64 0], .bool false]) (by simp [results, Tryd.results17, go_sem, r0, r1, r2, z3]) rfl ⟨rfl, ?_⟩
  first
    | exact below_set3 _ _ _ h3 (by omega)
    | exact below_bx2 (below_set3 _ _ _ h3b (by omega)) _

set_option maxHeartbeats 1600000 in
theorem ss_big2 (s x y : ByteArray) (n1 d1 n2 d2 : Int) (w : World)
    (HS : Hid (∀ W, Calls Tryd.prog 36 #[.string s, .string ⟨#[44]⟩] W fun e w' => ∃ g cap, e = .returned (.slice (some ⟨g, 0, none⟩) 2 cap) ∧ (∀ (j : Nat) u, [x, y][j]? = some u → w'.cell? ⟨g, j, none⟩ = some (.string u)) ∧ Below W.heap.size W w'))
    (HP1 : Hid (∀ W, Calls Tryd.prog 37 #[.string x] W fun e w' => e = .returned (.tuple #[.agg #[.int .i64 n1, .int .i64 d1], .bool true]) ∧ Below W.heap.size W w'))
    (HP2 : Hid (∀ W, Calls Tryd.prog 37 #[.string y] W fun e w' => e = .returned (.tuple #[.agg #[.int .i64 n2, .int .i64 d2], .bool true]) ∧ Below W.heap.size W w')) (k1 : d1 ≤ 5000000000) (k2 : 5000000000 < d2) :
    Calls Tryd.prog 17 #[.string s] w fun e w' => e = .returned (.tuple #[.agg #[.int .i64 0, .int .i64 0, .int .i64 0], .bool false]) ∧ Below w.heap.size w w' := by
  have H0 := has3_new w (.int .i64 0) (.int .i64 0) (.int .i64 0) 24
  have h0 := below_box w (.cells #[.int .i64 0, .int .i64 0, .int .i64 0] 24)
  go_enter Tryd.func17, Tryd.ntmps17
  go_wp2_with fail
  refine (HS.out _).mono ?_
  rintro e w1 ⟨g, cap, rfl, hcs, bl1⟩
  have c0 := hcs 0 x rfl
  have c1 := hcs 1 y rfl
  have hgl := block_lt_of_cell c0
  simp at hgl
  have h1 := below_to h0 bl1
  have H1 := has3_to bl1 H0
  clear hcs bl1 H0 h0
  go_wp2_with fail
  refine (HP1.out _).mono ?_
  rintro e w2 ⟨rfl, bl2⟩
  have c3 : w2.cell? ⟨g, 1, none⟩ = some (.string y) := by rw [bl2.cell hgl]; exact c1
  have hg2 : g < w2.heap.size := Nat.lt_of_lt_of_le hgl bl2.size
  have h2 := below_bx2 (below_to h1 bl2) (.cells #[.int .i64 n1, .int .i64 d1] 49)
  have H2 := has3_to (below_box _ (.cells #[.int .i64 n1, .int .i64 d1] 49)) (has3_to bl2 H1)
  have Q2 := has2_new w2 (.int .i64 n1) (.int .i64 d1) 49
  clear h1 H1 bl2 c0 c1 hgl
  go_wp2_with fail
  refine (HP2.out _).mono ?_
  rintro e w3 ⟨rfl, bl3⟩
  have h3b := below_to h2 bl3
  have h3 := below_bx2 h3b (.cells #[.int .i64 n2, .int .i64 d2] 49)
  have H3 := has3_to bl3 H2
  have Q3 := has2_to bl3 Q2
  have z3 := has3_lt H3
  clear h2 H2 bl3 Q2 c3 hg2
  obtain ⟨r0, r1, r2, f0, f1, f2⟩ := id H3
  obtain ⟨p0, p1⟩ := id Q3
  have z4 := has2_lt Q3
  go_wp2_with fail
  refine bodyPost_ret (v := .tuple #[.agg #[.int .i64 0, .int .i64 0, .int .i64 0], .bool false]) (by simp [results, Tryd.results17, go_sem, r0, r1, r2, z3]) rfl ⟨rfl, ?_⟩
  first
    | exact below_set3 _ _ _ h3 (by omega)
    | exact below_bx2 (below_set3 _ _ _ h3b (by omega)) _

end Go.Proofs.YtbdehelcpfkcmaaDoor
