/- The walk of ShiftSpot's law. -/
import Derived.Test.YtbdehelcpfkcmaaShf
namespace Go.Proofs.Ytbdehelcpfkcmaa
open Go.RowKit

theorem shiftS_ex (x y d a b : Int) : ∃ X Y D : Int, ∃ B : Bool, shiftS x y d a b = .tuple #[.agg #[.int .i64 X, .int .i64 Y, .int .i64 D], .bool B] := by
  unfold shiftS
  split
  · exact ansS_ex _ _ _
  · exact ⟨0, 0, 0, false, rfl⟩
set_option maxHeartbeats 800000 in
theorem eq_spot (x y d : Int) (w : World) :
    Calls Try.prog 14 #[.agg #[.int .i64 x, .int .i64 y, .int .i64 d], .agg #[.int .i64 x, .int .i64 y, .int .i64 d]] w fun e w' => e = .returned (.bool true) ∧ Below w.heap.size w w' := by
  go_enter Try.func14, Try.ntmps14
  go_wp2
  go_ret
  exact ⟨rfl, below_bx2 (below_box _ _) _⟩

set_option maxHeartbeats 3200000 in
theorem law_shift (a b x y d : Int) (wx : (Lit.int .i64 x).wf = true) (wy : (Lit.int .i64 y).wf = true) (wd : (Lit.int .i64 d).wf = true) (wa : (Lit.int .i64 a).wf = true) (wb : (Lit.int .i64 b).wf = true) (w : World) :
    Calls Try.prog 7 #[.agg #[.int .i64 x, .int .i64 y, .int .i64 d], .int .i64 a, .int .i64 b] w fun e w' => e = .returned (.bool true) ∧ Below w.heap.size w w' := by
  obtain ⟨hx, hx2⟩ := bounds_i64 wx
  obtain ⟨hy, hy2⟩ := bounds_i64 wy
  obtain ⟨hd, hd2⟩ := bounds_i64 wd
  obtain ⟨ha, ha2⟩ := bounds_i64 wa
  obtain ⟨hb, hb2⟩ := bounds_i64 wb
  clear wx wy wd wa wb
  have HS := Lib.hid (fun W => spec_shift x y d a b W hx hx2 hy hy2 hd hd2 ha ha2 hb hb2)
  have HI := Lib.hid (fun W => impl_shift x y d a b W hx hx2 hy hy2 hd hd2 ha ha2 hb hb2)
  obtain ⟨X, Y, D, B, eA⟩ := shiftS_ex x y d a b
  rw [eA] at HS HI
  clear eA hx hx2 hy hy2 hd hd2 ha ha2 hb hb2
  have hw := below_box w (.cells #[.int .i64 x, .int .i64 y, .int .i64 d] 23)
  have hc := has3_new w (.int .i64 x) (.int .i64 y) (.int .i64 d) 23
  go_enter Try.func7, Try.ntmps7
  go_wp2_with fail
  refine (to_spot x y d _).mono ?_
  rintro e w1 ⟨rfl, bl1⟩
  go_wp2_with fail
  refine (HS.out _).mono ?_
  rintro e w2 ⟨rfl, bl2⟩
  have c2 := has3_to (below_to bl1 bl2) hc
  have hw2 := below_to (below_to hw bl1) bl2
  obtain ⟨p0, p1, p2, _, _, _⟩ := id c2
  have hz := has3_lt c2
  clear bl1 bl2 hc
  go_wp2_with fail
  refine (to_spot x y d _).mono ?_
  rintro e w3 ⟨rfl, bl3⟩
  go_wp2_with fail
  refine (HI.out _).mono ?_
  rintro e w4 ⟨rfl, bl4⟩
  have hz4 := has3_lt (has3_to (below_to bl3 bl4) (has3_new w2 (.int .i64 X) (.int .i64 Y) (.int .i64 D) 25))
  obtain ⟨r0, r1, r2, _, _, _⟩ := has3_to (below_to bl3 bl4) (has3_new w2 (.int .i64 X) (.int .i64 Y) (.int .i64 D) 25)
  have hw4 := below_to (below_to (below_bx2 hw2 (.cells #[.int .i64 X, .int .i64 Y, .int .i64 D] 25)) bl3) bl4
  clear bl3 bl4 p0 p1 p2 c2
  go_wp2_with fail
  refine (eq_spot X Y D _).mono ?_
  rintro e w5 ⟨rfl, bl5⟩
  go_wp2_with fail
  go_ret
  exact ⟨rfl, below_to (below_bx2 hw4 _) bl5⟩

end Go.Proofs.Ytbdehelcpfkcmaa
