/- The contract of the model's ParseRatio over the translation. -/
import Derived.Test.YtbdehelcpfkcmaaDoorPr2
import Derived.Test.YtbdehelcpfkcmaaDoorStrs
namespace Go.Proofs.YtbdehelcpfkcmaaDoor
open Go.RowKit

theorem gives_cells {w w' : World} {e : Ending} {xs : List ByteArray} (h : Gives w xs e w') (hne : xs ≠ []) :
    ∃ g cap, e = .returned (.slice (some ⟨g, 0, none⟩) xs.length cap) ∧ (∀ (j : Nat) x, xs[j]? = some x → w'.cell? ⟨g, j, none⟩ = some (.string x)) ∧ Below w.heap.size w w' := by
  obtain ⟨v, rfl, ho, hb⟩ := h
  have hl : 0 < xs.length := List.length_pos_iff.2 hne
  obtain ⟨g, c, rfl⟩ : ∃ g c, v = .slice (some ⟨g, 0, none⟩) xs.length c := by
    rcases ho.2 with ⟨_, h2⟩ | ⟨g, c, _, hv, _⟩
    · omega
    · exact ⟨_, _, hv⟩
  refine ⟨g, c, rfl, ?_, hb⟩
  intro j x hj
  obtain ⟨⟨u, hu, hx⟩, _⟩ := own_cell ho j (List.getElem?_eq_some_iff.1 hj).1
  rw [List.getElem?_map, hj] at hx
  simp at hx
  rw [hu, ← hx]
theorem gt_b {a b : Int} (h : b < a) : (a == b) = false := by
  have : a ≠ b := by omega
  simpa using this

set_option maxHeartbeats 1600000 in
theorem ps_a_no (s x : ByteArray) (n : Int) (w : World)
    (HS : Hid (∀ W, Calls Tryd.prog 36 #[.string s, .string ⟨#[47]⟩] W fun e w' => ∃ g cap, e = .returned (.slice (some ⟨g, 0, none⟩) 1 cap) ∧ (∀ (j : Nat) u, [x][j]? = some u → w'.cell? ⟨g, j, none⟩ = some (.string u)) ∧ Below W.heap.size W w'))
    (HP1 : Hid (∀ W, Calls Tryd.prog 51 #[.string x] W fun e w' => e = .returned (.tuple #[.int .i64 n, .bool false]) ∧ Below W.heap.size W w')) :
    Calls Tryd.prog 37 #[.string s] w fun e w' => e = .returned (.tuple #[.agg #[.int .i64 0, .int .i64 0], .bool false]) ∧ Below w.heap.size w w' := by
  go_enter Tryd.func37, Tryd.ntmps37
  go_wp2_with fail
  refine (HS.out _).mono ?_
  rintro e w1 ⟨g, cap, rfl, hcs, hb1⟩
  have K1 := Lib.hid ((Kept.start w 0).next hb1)
  have c0 := hcs 0 x rfl
  have hgl := block_lt_of_cell c0
  simp at hgl
  clear hcs hb1
  go_wp2_with fail
  refine (HP1.out _).mono ?_
  rintro e w2 ⟨rfl, hb2⟩
  have K2 := Lib.hid (K1.out.next hb2)
  clear c0 hb2
  have K3 := K2
  obtain ⟨w3, hw3⟩ : ∃ w3, w3 = w2 := ⟨_, rfl⟩
  subst hw3
  obtain ⟨c0, c1, f0, f1, hz⟩ := K3.out.facts
  go_wp2_with fail
  refine bodyPost_ret (v := .tuple #[.agg #[.int .i64 0, .int .i64 0], .bool false]) (by simp [results, Tryd.results37, go_sem, c0, c1, hz]) rfl ⟨rfl, ?_⟩
  first
    | exact ((below_bx K3.out.2 _).setCell (by simp) _).setCell (by simp) _
    | exact below_bx ((K3.out.2.setCell (by simp) _).setCell (by simp) _) _

set_option maxHeartbeats 1600000 in
theorem ps_a_eq (s x z : ByteArray) (n : Int) (w : World)
    (HS : Hid (∀ W, Calls Tryd.prog 36 #[.string s, .string ⟨#[47]⟩] W fun e w' => ∃ g cap, e = .returned (.slice (some ⟨g, 0, none⟩) 1 cap) ∧ (∀ (j : Nat) u, [x][j]? = some u → w'.cell? ⟨g, j, none⟩ = some (.string u)) ∧ Below W.heap.size W w'))
    (HP1 : Hid (∀ W, Calls Tryd.prog 51 #[.string x] W fun e w' => e = .returned (.tuple #[.int .i64 n, .bool true]) ∧ Below W.heap.size W w'))
    (HF : Hid (∀ W, Calls Tryd.prog 34 #[.agg #[.int .i64 n, .int .i64 1]] W fun e w' => e = .returned (.string z) ∧ Below W.heap.size W w')) (hq : (z.toList == s.toList) = true)
    (HO : Hid (∀ W, Calls Tryd.prog 49 #[.agg #[.int .i64 n, .int .i64 1]] W fun e w' => e = .returned (.bool true) ∧ Below W.heap.size W w')) :
    Calls Tryd.prog 37 #[.string s] w fun e w' => e = .returned (.tuple #[.agg #[.int .i64 n, .int .i64 1], .bool true]) ∧ Below w.heap.size w w' := by
  go_enter Tryd.func37, Tryd.ntmps37
  go_wp2_with fail
  refine (HS.out _).mono ?_
  rintro e w1 ⟨g, cap, rfl, hcs, hb1⟩
  have K1 := Lib.hid ((Kept.start w 0).next hb1)
  have c0 := hcs 0 x rfl
  have hgl := block_lt_of_cell c0
  simp at hgl
  clear hcs hb1
  go_wp2_with fail
  refine (HP1.out _).mono ?_
  rintro e w2 ⟨rfl, hb2⟩
  have K2 := Lib.hid (K1.out.next hb2)
  clear c0 hb2
  have K3 := K2
  obtain ⟨w3, hw3⟩ : ∃ w3, w3 = w2 := ⟨_, rfl⟩
  subst hw3
  obtain ⟨c0, c1, f0, f1, hz⟩ := K3.out.facts
  go_wp2_with fail
  refine (HF.out _).mono ?_
  rintro e w4 ⟨rfl, hb4⟩
  obtain ⟨K4, b0, b1, hz3⟩ := K3.out.box hb4
  have K4 := Lib.hid K4
  clear c0 c1 f0 f1 hb4
  obtain ⟨c0, c1, f0, f1, hz4⟩ := K4.out.facts
  go_wp2_with fail
  refine (HO.out _).mono ?_
  rintro e w5 ⟨rfl, hb5⟩
  have K5 := Lib.hid (K4.out.next hb5)
  have b2 : w5.cell? ⟨w3.heap.size, 0, none⟩ = some (.int .i64 n) := by rw [hb5.cell hz3]; exact b0
  have b3 : w5.cell? ⟨w3.heap.size, 1, none⟩ = some (.int .i64 1) := by rw [hb5.cell hz3]; exact b1
  clear c0 c1 f0 f1 hb5 b0 b1
  obtain ⟨c0, c1, f0, f1, hz5⟩ := K5.out.facts
  go_wp2_with fail
  refine bodyPost_ret (v := .tuple #[.agg #[.int .i64 n, .int .i64 1], .bool true]) (by simp [results, Tryd.results37, go_sem, c0, c1]) rfl ⟨rfl, ?_⟩
  exact (K5.out.2.setCell (by simp) _).setCell (by simp) _

set_option maxHeartbeats 1600000 in
theorem ps_a_ne (s x z : ByteArray) (n : Int) (w : World)
    (HS : Hid (∀ W, Calls Tryd.prog 36 #[.string s, .string ⟨#[47]⟩] W fun e w' => ∃ g cap, e = .returned (.slice (some ⟨g, 0, none⟩) 1 cap) ∧ (∀ (j : Nat) u, [x][j]? = some u → w'.cell? ⟨g, j, none⟩ = some (.string u)) ∧ Below W.heap.size W w'))
    (HP1 : Hid (∀ W, Calls Tryd.prog 51 #[.string x] W fun e w' => e = .returned (.tuple #[.int .i64 n, .bool true]) ∧ Below W.heap.size W w'))
    (HF : Hid (∀ W, Calls Tryd.prog 34 #[.agg #[.int .i64 n, .int .i64 1]] W fun e w' => e = .returned (.string z) ∧ Below W.heap.size W w')) (hq : (z.toList == s.toList) = false) :
    Calls Tryd.prog 37 #[.string s] w fun e w' => e = .returned (.tuple #[.agg #[.int .i64 0, .int .i64 0], .bool false]) ∧ Below w.heap.size w w' := by
  go_enter Tryd.func37, Tryd.ntmps37
  go_wp2_with fail
  refine (HS.out _).mono ?_
  rintro e w1 ⟨g, cap, rfl, hcs, hb1⟩
  have K1 := Lib.hid ((Kept.start w 0).next hb1)
  have c0 := hcs 0 x rfl
  have hgl := block_lt_of_cell c0
  simp at hgl
  clear hcs hb1
  go_wp2_with fail
  refine (HP1.out _).mono ?_
  rintro e w2 ⟨rfl, hb2⟩
  have K2 := Lib.hid (K1.out.next hb2)
  clear c0 hb2
  have K3 := K2
  obtain ⟨w3, hw3⟩ : ∃ w3, w3 = w2 := ⟨_, rfl⟩
  subst hw3
  obtain ⟨c0, c1, f0, f1, hz⟩ := K3.out.facts
  go_wp2_with fail
  refine (HF.out _).mono ?_
  rintro e w4 ⟨rfl, hb4⟩
  obtain ⟨K4, b0, b1, hz3⟩ := K3.out.box hb4
  have K4 := Lib.hid K4
  clear c0 c1 f0 f1 hb4
  obtain ⟨c0, c1, f0, f1, hz4⟩ := K4.out.facts
  go_wp2_with fail
  refine bodyPost_ret (v := .tuple #[.agg #[.int .i64 0, .int .i64 0], .bool false]) (by simp [results, Tryd.results37, go_sem, c0, c1]) rfl ⟨rfl, ?_⟩
  exact (K4.out.2.setCell (by simp) _).setCell (by simp) _

set_option maxHeartbeats 1600000 in
theorem ps_b_no (s x y : ByteArray) (n d : Int) (ok2 : Bool) (w : World)
    (HS : Hid (∀ W, Calls Tryd.prog 36 #[.string s, .string ⟨#[47]⟩] W fun e w' => ∃ g cap, e = .returned (.slice (some ⟨g, 0, none⟩) 2 cap) ∧ (∀ (j : Nat) u, [x, y][j]? = some u → w'.cell? ⟨g, j, none⟩ = some (.string u)) ∧ Below W.heap.size W w'))
    (HP1 : Hid (∀ W, Calls Tryd.prog 51 #[.string x] W fun e w' => e = .returned (.tuple #[.int .i64 n, .bool false]) ∧ Below W.heap.size W w'))
    (HP2 : Hid (∀ W, Calls Tryd.prog 51 #[.string y] W fun e w' => e = .returned (.tuple #[.int .i64 d, .bool ok2]) ∧ Below W.heap.size W w')) :
    Calls Tryd.prog 37 #[.string s] w fun e w' => e = .returned (.tuple #[.agg #[.int .i64 0, .int .i64 0], .bool false]) ∧ Below w.heap.size w w' := by
  go_enter Tryd.func37, Tryd.ntmps37
  go_wp2_with fail
  refine (HS.out _).mono ?_
  rintro e w1 ⟨g, cap, rfl, hcs, hb1⟩
  have K1 := Lib.hid ((Kept.start w 0).next hb1)
  have c0 := hcs 0 x rfl
  have c1 := hcs 1 y rfl
  have hgl := block_lt_of_cell c0
  simp at hgl
  clear hcs hb1
  go_wp2_with fail
  refine (HP1.out _).mono ?_
  rintro e w2 ⟨rfl, hb2⟩
  have K2 := Lib.hid (K1.out.next hb2)
  have c3 : w2.cell? ⟨g, 1, none⟩ = some (.string y) := by rw [hb2.cell hgl]; exact c1
  clear c0 c1 hb2
  go_wp2_with fail
  refine (HP2.out _).mono ?_
  rintro e w3 ⟨rfl, hb3⟩
  have K3 := Lib.hid (K2.out.next hb3)
  clear c3 hb3
  obtain ⟨c0, c1, f0, f1, hz⟩ := K3.out.facts
  go_wp2_with fail
  refine bodyPost_ret (v := .tuple #[.agg #[.int .i64 0, .int .i64 0], .bool false]) (by simp [results, Tryd.results37, go_sem, c0, c1, hz]) rfl ⟨rfl, ?_⟩
  first
    | exact ((below_bx K3.out.2 _).setCell (by simp) _).setCell (by simp) _
    | exact below_bx ((K3.out.2.setCell (by simp) _).setCell (by simp) _) _

set_option maxHeartbeats 1600000 in
theorem ps_b_no2 (s x y : ByteArray) (n d : Int) (w : World)
    (HS : Hid (∀ W, Calls Tryd.prog 36 #[.string s, .string ⟨#[47]⟩] W fun e w' => ∃ g cap, e = .returned (.slice (some ⟨g, 0, none⟩) 2 cap) ∧ (∀ (j : Nat) u, [x, y][j]? = some u → w'.cell? ⟨g, j, none⟩ = some (.string u)) ∧ Below W.heap.size W w'))
    (HP1 : Hid (∀ W, Calls Tryd.prog 51 #[.string x] W fun e w' => e = .returned (.tuple #[.int .i64 n, .bool true]) ∧ Below W.heap.size W w'))
    (HP2 : Hid (∀ W, Calls Tryd.prog 51 #[.string y] W fun e w' => e = .returned (.tuple #[.int .i64 d, .bool false]) ∧ Below W.heap.size W w')) :
    Calls Tryd.prog 37 #[.string s] w fun e w' => e = .returned (.tuple #[.agg #[.int .i64 0, .int .i64 0], .bool false]) ∧ Below w.heap.size w w' := by
  go_enter Tryd.func37, Tryd.ntmps37
  go_wp2_with fail
  refine (HS.out _).mono ?_
  rintro e w1 ⟨g, cap, rfl, hcs, hb1⟩
  have K1 := Lib.hid ((Kept.start w 0).next hb1)
  have c0 := hcs 0 x rfl
  have c1 := hcs 1 y rfl
  have hgl := block_lt_of_cell c0
  simp at hgl
  clear hcs hb1
  go_wp2_with fail
  refine (HP1.out _).mono ?_
  rintro e w2 ⟨rfl, hb2⟩
  have K2 := Lib.hid (K1.out.next hb2)
  have c3 : w2.cell? ⟨g, 1, none⟩ = some (.string y) := by rw [hb2.cell hgl]; exact c1
  clear c0 c1 hb2
  go_wp2_with fail
  refine (HP2.out _).mono ?_
  rintro e w3 ⟨rfl, hb3⟩
  have K3 := Lib.hid (K2.out.next hb3)
  clear c3 hb3
  obtain ⟨c0, c1, f0, f1, hz⟩ := K3.out.facts
  go_wp2_with fail
  refine bodyPost_ret (v := .tuple #[.agg #[.int .i64 0, .int .i64 0], .bool false]) (by simp [results, Tryd.results37, go_sem, c0, c1, hz]) rfl ⟨rfl, ?_⟩
  first
    | exact ((below_bx K3.out.2 _).setCell (by simp) _).setCell (by simp) _
    | exact below_bx ((K3.out.2.setCell (by simp) _).setCell (by simp) _) _

set_option maxHeartbeats 1600000 in
theorem ps_b_eq (s x y z : ByteArray) (n d : Int) (w : World)
    (HS : Hid (∀ W, Calls Tryd.prog 36 #[.string s, .string ⟨#[47]⟩] W fun e w' => ∃ g cap, e = .returned (.slice (some ⟨g, 0, none⟩) 2 cap) ∧ (∀ (j : Nat) u, [x, y][j]? = some u → w'.cell? ⟨g, j, none⟩ = some (.string u)) ∧ Below W.heap.size W w'))
    (HP1 : Hid (∀ W, Calls Tryd.prog 51 #[.string x] W fun e w' => e = .returned (.tuple #[.int .i64 n, .bool true]) ∧ Below W.heap.size W w'))
    (HP2 : Hid (∀ W, Calls Tryd.prog 51 #[.string y] W fun e w' => e = .returned (.tuple #[.int .i64 d, .bool true]) ∧ Below W.heap.size W w'))
    (HF : Hid (∀ W, Calls Tryd.prog 34 #[.agg #[.int .i64 n, .int .i64 d]] W fun e w' => e = .returned (.string z) ∧ Below W.heap.size W w')) (hq : (z.toList == s.toList) = true)
    (HO : Hid (∀ W, Calls Tryd.prog 49 #[.agg #[.int .i64 n, .int .i64 d]] W fun e w' => e = .returned (.bool true) ∧ Below W.heap.size W w')) :
    Calls Tryd.prog 37 #[.string s] w fun e w' => e = .returned (.tuple #[.agg #[.int .i64 n, .int .i64 d], .bool true]) ∧ Below w.heap.size w w' := by
  go_enter Tryd.func37, Tryd.ntmps37
  go_wp2_with fail
  refine (HS.out _).mono ?_
  rintro e w1 ⟨g, cap, rfl, hcs, hb1⟩
  have K1 := Lib.hid ((Kept.start w 0).next hb1)
  have c0 := hcs 0 x rfl
  have c1 := hcs 1 y rfl
  have hgl := block_lt_of_cell c0
  simp at hgl
  clear hcs hb1
  go_wp2_with fail
  refine (HP1.out _).mono ?_
  rintro e w2 ⟨rfl, hb2⟩
  have K2 := Lib.hid (K1.out.next hb2)
  have c3 : w2.cell? ⟨g, 1, none⟩ = some (.string y) := by rw [hb2.cell hgl]; exact c1
  clear c0 c1 hb2
  go_wp2_with fail
  refine (HP2.out _).mono ?_
  rintro e w3 ⟨rfl, hb3⟩
  have K3 := Lib.hid (K2.out.next hb3)
  clear c3 hb3
  obtain ⟨c0, c1, f0, f1, hz⟩ := K3.out.facts
  go_wp2_with fail
  refine (HF.out _).mono ?_
  rintro e w4 ⟨rfl, hb4⟩
  obtain ⟨K4, b0, b1, hz3⟩ := K3.out.box hb4
  have K4 := Lib.hid K4
  clear c0 c1 f0 f1 hb4
  obtain ⟨c0, c1, f0, f1, hz4⟩ := K4.out.facts
  go_wp2_with fail
  refine (HO.out _).mono ?_
  rintro e w5 ⟨rfl, hb5⟩
  have K5 := Lib.hid (K4.out.next hb5)
  have b2 : w5.cell? ⟨w3.heap.size, 0, none⟩ = some (.int .i64 n) := by rw [hb5.cell hz3]; exact b0
  have b3 : w5.cell? ⟨w3.heap.size, 1, none⟩ = some (.int .i64 d) := by rw [hb5.cell hz3]; exact b1
  clear c0 c1 f0 f1 hb5 b0 b1
  obtain ⟨c0, c1, f0, f1, hz5⟩ := K5.out.facts
  go_wp2_with fail
  refine bodyPost_ret (v := .tuple #[.agg #[.int .i64 n, .int .i64 d], .bool true]) (by simp [results, Tryd.results37, go_sem, c0, c1]) rfl ⟨rfl, ?_⟩
  exact (K5.out.2.setCell (by simp) _).setCell (by simp) _

set_option maxHeartbeats 1600000 in
theorem ps_b_ne (s x y z : ByteArray) (n d : Int) (w : World)
    (HS : Hid (∀ W, Calls Tryd.prog 36 #[.string s, .string ⟨#[47]⟩] W fun e w' => ∃ g cap, e = .returned (.slice (some ⟨g, 0, none⟩) 2 cap) ∧ (∀ (j : Nat) u, [x, y][j]? = some u → w'.cell? ⟨g, j, none⟩ = some (.string u)) ∧ Below W.heap.size W w'))
    (HP1 : Hid (∀ W, Calls Tryd.prog 51 #[.string x] W fun e w' => e = .returned (.tuple #[.int .i64 n, .bool true]) ∧ Below W.heap.size W w'))
    (HP2 : Hid (∀ W, Calls Tryd.prog 51 #[.string y] W fun e w' => e = .returned (.tuple #[.int .i64 d, .bool true]) ∧ Below W.heap.size W w'))
    (HF : Hid (∀ W, Calls Tryd.prog 34 #[.agg #[.int .i64 n, .int .i64 d]] W fun e w' => e = .returned (.string z) ∧ Below W.heap.size W w')) (hq : (z.toList == s.toList) = false) :
    Calls Tryd.prog 37 #[.string s] w fun e w' => e = .returned (.tuple #[.agg #[.int .i64 0, .int .i64 0], .bool false]) ∧ Below w.heap.size w w' := by
  go_enter Tryd.func37, Tryd.ntmps37
  go_wp2_with fail
  refine (HS.out _).mono ?_
  rintro e w1 ⟨g, cap, rfl, hcs, hb1⟩
  have K1 := Lib.hid ((Kept.start w 0).next hb1)
  have c0 := hcs 0 x rfl
  have c1 := hcs 1 y rfl
  have hgl := block_lt_of_cell c0
  simp at hgl
  clear hcs hb1
  go_wp2_with fail
  refine (HP1.out _).mono ?_
  rintro e w2 ⟨rfl, hb2⟩
  have K2 := Lib.hid (K1.out.next hb2)
  have c3 : w2.cell? ⟨g, 1, none⟩ = some (.string y) := by rw [hb2.cell hgl]; exact c1
  clear c0 c1 hb2
  go_wp2_with fail
  refine (HP2.out _).mono ?_
  rintro e w3 ⟨rfl, hb3⟩
  have K3 := Lib.hid (K2.out.next hb3)
  clear c3 hb3
  obtain ⟨c0, c1, f0, f1, hz⟩ := K3.out.facts
  go_wp2_with fail
  refine (HF.out _).mono ?_
  rintro e w4 ⟨rfl, hb4⟩
  obtain ⟨K4, b0, b1, hz3⟩ := K3.out.box hb4
  have K4 := Lib.hid K4
  clear c0 c1 f0 f1 hb4
  obtain ⟨c0, c1, f0, f1, hz4⟩ := K4.out.facts
  go_wp2_with fail
  refine bodyPost_ret (v := .tuple #[.agg #[.int .i64 0, .int .i64 0], .bool false]) (by simp [results, Tryd.results37, go_sem, c0, c1]) rfl ⟨rfl, ?_⟩
  exact (K4.out.2.setCell (by simp) _).setCell (by simp) _

set_option maxHeartbeats 1600000 in
theorem ps_c_no (s x : ByteArray) (n : Int) (xs : List ByteArray) (hx0 : xs[0]? = some x) (hL : (2 : Int) < (xs.length : Int)) (w : World)
    (HS : Hid (∀ W, Calls Tryd.prog 36 #[.string s, .string ⟨#[47]⟩] W fun e w' => ∃ g cap, e = .returned (.slice (some ⟨g, 0, none⟩) xs.length cap) ∧ (∀ (j : Nat) u, xs[j]? = some u → w'.cell? ⟨g, j, none⟩ = some (.string u)) ∧ Below W.heap.size W w'))
    (HP1 : Hid (∀ W, Calls Tryd.prog 51 #[.string x] W fun e w' => e = .returned (.tuple #[.int .i64 n, .bool false]) ∧ Below W.heap.size W w')) :
    Calls Tryd.prog 37 #[.string s] w fun e w' => e = .returned (.tuple #[.agg #[.int .i64 0, .int .i64 0], .bool false]) ∧ Below w.heap.size w w' := by
  have hL2 := gt_b hL
  have hL0 : (0 : Int) < (xs.length : Int) := by omega
  go_enter Tryd.func37, Tryd.ntmps37
  go_wp2_with fail
  refine (HS.out _).mono ?_
  rintro e w1 ⟨g, cap, rfl, hcs, hb1⟩
  have K1 := Lib.hid ((Kept.start w 0).next hb1)
  have c0 := hcs 0 x hx0
  have hgl := block_lt_of_cell c0
  simp at hgl
  clear hcs hb1
  go_wp2_with fail
  refine (HP1.out _).mono ?_
  rintro e w2 ⟨rfl, hb2⟩
  have K2 := Lib.hid (K1.out.next hb2)
  clear c0 hb2
  have K3 := K2
  obtain ⟨w3, hw3⟩ : ∃ w3, w3 = w2 := ⟨_, rfl⟩
  subst hw3
  obtain ⟨c0, c1, f0, f1, hz⟩ := K3.out.facts
  go_wp2_with fail
  refine bodyPost_ret (v := .tuple #[.agg #[.int .i64 0, .int .i64 0], .bool false]) (by simp [results, Tryd.results37, go_sem, c0, c1, hz]) rfl ⟨rfl, ?_⟩
  first
    | exact ((below_bx K3.out.2 _).setCell (by simp) _).setCell (by simp) _
    | exact below_bx ((K3.out.2.setCell (by simp) _).setCell (by simp) _) _

set_option maxHeartbeats 1600000 in
theorem ps_c_ne (s x : ByteArray) (n : Int) (xs : List ByteArray) (hx0 : xs[0]? = some x) (hL : (2 : Int) < (xs.length : Int)) (w : World)
    (HS : Hid (∀ W, Calls Tryd.prog 36 #[.string s, .string ⟨#[47]⟩] W fun e w' => ∃ g cap, e = .returned (.slice (some ⟨g, 0, none⟩) xs.length cap) ∧ (∀ (j : Nat) u, xs[j]? = some u → w'.cell? ⟨g, j, none⟩ = some (.string u)) ∧ Below W.heap.size W w'))
    (HP1 : Hid (∀ W, Calls Tryd.prog 51 #[.string x] W fun e w' => e = .returned (.tuple #[.int .i64 n, .bool true]) ∧ Below W.heap.size W w')) :
    Calls Tryd.prog 37 #[.string s] w fun e w' => e = .returned (.tuple #[.agg #[.int .i64 0, .int .i64 0], .bool false]) ∧ Below w.heap.size w w' := by
  have hL2 := gt_b hL
  have hL0 : (0 : Int) < (xs.length : Int) := by omega
  go_enter Tryd.func37, Tryd.ntmps37
  go_wp2_with fail
  refine (HS.out _).mono ?_
  rintro e w1 ⟨g, cap, rfl, hcs, hb1⟩
  have K1 := Lib.hid ((Kept.start w 0).next hb1)
  have c0 := hcs 0 x hx0
  have hgl := block_lt_of_cell c0
  simp at hgl
  clear hcs hb1
  go_wp2_with fail
  refine (HP1.out _).mono ?_
  rintro e w2 ⟨rfl, hb2⟩
  have K2 := Lib.hid (K1.out.next hb2)
  clear c0 hb2
  have K3 := K2
  obtain ⟨w3, hw3⟩ : ∃ w3, w3 = w2 := ⟨_, rfl⟩
  subst hw3
  obtain ⟨c0, c1, f0, f1, hz⟩ := K3.out.facts
  go_wp2_with fail
  refine bodyPost_ret (v := .tuple #[.agg #[.int .i64 0, .int .i64 0], .bool false]) (by simp [results, Tryd.results37, go_sem, c0, c1, hz]) rfl ⟨rfl, ?_⟩
  first
    | exact ((below_bx K3.out.2 _).setCell (by simp) _).setCell (by simp) _
    | exact below_bx ((K3.out.2.setCell (by simp) _).setCell (by simp) _) _
end Go.Proofs.YtbdehelcpfkcmaaDoor
