/- The contract of the program's ParseSpot at every text, over the translation. -/
import Derived.Test.YtbdehelcpfkcmaaDoorSat
import Derived.Test.YtbdehelcpfkcmaaDoorSep
import Derived.Test.YtbdehelcpfkcmaaDoorPr2
namespace Go.Proofs.YtbdehelcpfkcmaaDoor
open Go.RowKit

theorem Vars.start {w : World} (h : Vars w) (o : Obj) (k : Nat) : Vars ((w.alloc o).drewN k) := h.below (below_drew (below_box w o) k)

set_option maxHeartbeats 1600000 in
theorem is_no1 (s x y : ByteArray) (n1 d1 n2 d2 : Int) (c b2 : Bool) (w : World) (HV : Hid (Vars w))
    (HC : Hid (∀ W, Calls Tryd.prog 24 #[.string s, .string ⟨#[44]⟩] W fun e w' => e = .returned (.tuple #[.string x, .string y, .bool c]) ∧ ∃ k, w' = W.drewN k))
    (HP1 : Hid (∀ W, Vars W → Calls Tryd.prog 25 #[.string x] W fun e w' => e = .returned (.tuple #[.agg #[.int .i64 n1, .int .i64 d1], .bool false]) ∧ Below W.heap.size W w'))
    (HP2 : Hid (∀ W, Vars W → Calls Tryd.prog 25 #[.string y] W fun e w' => e = .returned (.tuple #[.agg #[.int .i64 n2, .int .i64 d2], .bool b2]) ∧ Below W.heap.size W w')) :
    Calls Tryd.prog 10 #[.string s] w fun e w' => e = .returned (.tuple #[.agg #[.int .i64 0, .int .i64 0, .int .i64 0], .bool false]) ∧ Below w.heap.size w w' := by
  have H0 := has3_new w (.int .i64 0) (.int .i64 0) (.int .i64 0) 24
  go_enter Tryd.func10, Tryd.ntmps10
  go_wp2_with fail
  refine (HC.out _).mono ?_
  rintro e w1 ⟨rfl, k, rfl⟩
  have h1 := below_drew (below_box w (.cells #[.int .i64 0, .int .i64 0, .int .i64 0] 24)) k
  have H1 := has3_to (below_drew (Below.refl _ (w.alloc (.cells #[.int .i64 0, .int .i64 0, .int .i64 0] 24))) k) H0
  clear H0
  generalize (w.alloc (.cells #[.int .i64 0, .int .i64 0, .int .i64 0] 24)).drewN k = W1 at *
  go_wp2_with fail
  refine (HP1.out _ (HV.out.below h1)).mono ?_
  rintro e w2 ⟨rfl, bl2⟩
  have h2 := below_bx2 (below_to h1 bl2) (.cells #[.int .i64 n1, .int .i64 d1] 49)
  have H2 := has3_to (below_box _ (.cells #[.int .i64 n1, .int .i64 d1] 49)) (has3_to bl2 H1)
  have Q2 := has2_new w2 (.int .i64 n1) (.int .i64 d1) 49
  clear h1 H1 bl2
  go_wp2_with fail
  refine (HP2.out _ (HV.out.below h2)).mono ?_
  rintro e w3 ⟨rfl, bl3⟩
  have h3b := below_to h2 bl3
  have h3 := below_bx2 h3b (.cells #[.int .i64 n2, .int .i64 d2] 49)
  have H3 := has3_to bl3 H2
  have Q3 := has2_to bl3 Q2
  have z3 := has3_lt H3
  clear h2 H2 bl3 Q2
  obtain ⟨r0, r1, r2, f0, f1, f2⟩ := id H3
  go_wp2_with fail
  refine bodyPost_ret (v := .tuple #[.agg #[.int .i64 0, .int .i64 0, .int .i64 0], .bool false]) (by simp [results, Tryd.results10, go_sem, r0, r1, r2, z3]) rfl ⟨rfl, ?_⟩
  first
    | exact below_set3 _ _ _ h3 (by omega)
    | exact below_bx2 (below_set3 _ _ _ h3b (by omega)) _

set_option maxHeartbeats 1600000 in
theorem is_no2 (s x y : ByteArray) (n1 d1 n2 d2 : Int) (c : Bool) (w : World) (HV : Hid (Vars w))
    (HC : Hid (∀ W, Calls Tryd.prog 24 #[.string s, .string ⟨#[44]⟩] W fun e w' => e = .returned (.tuple #[.string x, .string y, .bool c]) ∧ ∃ k, w' = W.drewN k))
    (HP1 : Hid (∀ W, Vars W → Calls Tryd.prog 25 #[.string x] W fun e w' => e = .returned (.tuple #[.agg #[.int .i64 n1, .int .i64 d1], .bool true]) ∧ Below W.heap.size W w'))
    (HP2 : Hid (∀ W, Vars W → Calls Tryd.prog 25 #[.string y] W fun e w' => e = .returned (.tuple #[.agg #[.int .i64 n2, .int .i64 d2], .bool false]) ∧ Below W.heap.size W w')) :
    Calls Tryd.prog 10 #[.string s] w fun e w' => e = .returned (.tuple #[.agg #[.int .i64 0, .int .i64 0, .int .i64 0], .bool false]) ∧ Below w.heap.size w w' := by
  have H0 := has3_new w (.int .i64 0) (.int .i64 0) (.int .i64 0) 24
  go_enter Tryd.func10, Tryd.ntmps10
  go_wp2_with fail
  refine (HC.out _).mono ?_
  rintro e w1 ⟨rfl, k, rfl⟩
  have h1 := below_drew (below_box w (.cells #[.int .i64 0, .int .i64 0, .int .i64 0] 24)) k
  have H1 := has3_to (below_drew (Below.refl _ (w.alloc (.cells #[.int .i64 0, .int .i64 0, .int .i64 0] 24))) k) H0
  clear H0
  generalize (w.alloc (.cells #[.int .i64 0, .int .i64 0, .int .i64 0] 24)).drewN k = W1 at *
  go_wp2_with fail
  refine (HP1.out _ (HV.out.below h1)).mono ?_
  rintro e w2 ⟨rfl, bl2⟩
  have h2 := below_bx2 (below_to h1 bl2) (.cells #[.int .i64 n1, .int .i64 d1] 49)
  have H2 := has3_to (below_box _ (.cells #[.int .i64 n1, .int .i64 d1] 49)) (has3_to bl2 H1)
  have Q2 := has2_new w2 (.int .i64 n1) (.int .i64 d1) 49
  clear h1 H1 bl2
  go_wp2_with fail
  refine (HP2.out _ (HV.out.below h2)).mono ?_
  rintro e w3 ⟨rfl, bl3⟩
  have h3b := below_to h2 bl3
  have h3 := below_bx2 h3b (.cells #[.int .i64 n2, .int .i64 d2] 49)
  have H3 := has3_to bl3 H2
  have Q3 := has2_to bl3 Q2
  have z3 := has3_lt H3
  clear h2 H2 bl3 Q2
  obtain ⟨r0, r1, r2, f0, f1, f2⟩ := id H3
  go_wp2_with fail
  refine bodyPost_ret (v := .tuple #[.agg #[.int .i64 0, .int .i64 0, .int .i64 0], .bool false]) (by simp [results, Tryd.results10, go_sem, r0, r1, r2, z3]) rfl ⟨rfl, ?_⟩
  first
    | exact below_set3 _ _ _ h3 (by omega)
    | exact below_bx2 (below_set3 _ _ _ h3b (by omega)) _

set_option maxHeartbeats 1600000 in
theorem is_yes (s x y : ByteArray) (n1 d1 n2 d2 : Int) (c : Bool) (X Y D : Int) (B : Bool) (w : World) (HV : Hid (Vars w))
    (HC : Hid (∀ W, Calls Tryd.prog 24 #[.string s, .string ⟨#[44]⟩] W fun e w' => e = .returned (.tuple #[.string x, .string y, .bool c]) ∧ ∃ k, w' = W.drewN k))
    (HP1 : Hid (∀ W, Vars W → Calls Tryd.prog 25 #[.string x] W fun e w' => e = .returned (.tuple #[.agg #[.int .i64 n1, .int .i64 d1], .bool true]) ∧ Below W.heap.size W w'))
    (HP2 : Hid (∀ W, Vars W → Calls Tryd.prog 25 #[.string y] W fun e w' => e = .returned (.tuple #[.agg #[.int .i64 n2, .int .i64 d2], .bool true]) ∧ Below W.heap.size W w'))
    (HA : Hid (∀ W, Calls Tryd.prog 26 #[.agg #[.int .i64 n1, .int .i64 d1], .agg #[.int .i64 n2, .int .i64 d2]] W fun e w' => e = .returned (.tuple #[.agg #[.int .i64 X, .int .i64 Y, .int .i64 D], .bool B]) ∧ Below W.heap.size W w')) :
    Calls Tryd.prog 10 #[.string s] w fun e w' => e = .returned (.tuple #[.agg #[.int .i64 X, .int .i64 Y, .int .i64 D], .bool B]) ∧ Below w.heap.size w w' := by
  have H0 := has3_new w (.int .i64 0) (.int .i64 0) (.int .i64 0) 24
  go_enter Tryd.func10, Tryd.ntmps10
  go_wp2_with fail
  refine (HC.out _).mono ?_
  rintro e w1 ⟨rfl, k, rfl⟩
  have h1 := below_drew (below_box w (.cells #[.int .i64 0, .int .i64 0, .int .i64 0] 24)) k
  have H1 := has3_to (below_drew (Below.refl _ (w.alloc (.cells #[.int .i64 0, .int .i64 0, .int .i64 0] 24))) k) H0
  clear H0
  generalize (w.alloc (.cells #[.int .i64 0, .int .i64 0, .int .i64 0] 24)).drewN k = W1 at *
  go_wp2_with fail
  refine (HP1.out _ (HV.out.below h1)).mono ?_
  rintro e w2 ⟨rfl, bl2⟩
  have h2 := below_bx2 (below_to h1 bl2) (.cells #[.int .i64 n1, .int .i64 d1] 49)
  have H2 := has3_to (below_box _ (.cells #[.int .i64 n1, .int .i64 d1] 49)) (has3_to bl2 H1)
  have Q2 := has2_new w2 (.int .i64 n1) (.int .i64 d1) 49
  clear h1 H1 bl2
  go_wp2_with fail
  refine (HP2.out _ (HV.out.below h2)).mono ?_
  rintro e w3 ⟨rfl, bl3⟩
  have h3b := below_to h2 bl3
  have h3 := below_bx2 h3b (.cells #[.int .i64 n2, .int .i64 d2] 49)
  have H3 := has3_to bl3 H2
  have Q3 := has2_to bl3 Q2
  have z3 := has3_lt H3
  clear h2 H2 bl3 Q2
  obtain ⟨p0, p1⟩ := id Q3
  have z4 := has2_lt Q3
  have H4 := has3_to (below_box w3 (.cells #[.int .i64 n2, .int .i64 d2] 49)) H3
  clear H3
  go_wp2_with fail
  refine (HA.out _).mono ?_
  rintro e w4 ⟨rfl, bl4⟩
  obtain ⟨r0, r1, r2, f0, f1, f2⟩ := has3_to bl4 H4
  have h4 := below_to h3 bl4
  clear p0 p1 z3 z4
  go_wp2_with fail
  refine bodyPost_ret (v := .tuple #[.agg #[.int .i64 X, .int .i64 Y, .int .i64 D], .bool B]) (by simp [results, Tryd.results10, go_sem, r0, r1, r2]) rfl ⟨rfl, ?_⟩
  exact below_set3 _ _ _ h4 (by omega)

end Go.Proofs.YtbdehelcpfkcmaaDoor
