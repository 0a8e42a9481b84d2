/- The walk of the law FnSpots. -/
import Derived.Test.YtbdehelcpfkcmaaDoorSlf
namespace Go.Proofs.YtbdehelcpfkcmaaDoor
open Go.RowKit

set_option maxRecDepth 5000 in
set_option maxHeartbeats 40000000 in
theorem law_spots (a0 : Option Addr) (len cap : Nat) (w : World) (hm : len ≤ maxLen) (hB : BytesAt w a0 len)
    (htab : Lib.TabIs Tryd.prog w "internal/strconv.uint64pow10" .u64 Lib.pow10Tab) (hsyn : ∃ tp p, w.var? Tryd.prog "strconv.ErrSyntax" = some #[.iface tp p]) (hran : ∃ tp p, w.var? Tryd.prog "strconv.ErrRange" = some #[.iface tp p]) :
    Calls Tryd.prog 3 #[.slice a0 len cap] w fun e w' => e = .returned (.bool true) ∧ Below w.heap.size w w' := by
  have HV := Lib.hid (show Vars w from ⟨htab, hsyn, hran⟩)
  have HB := Lib.hid hB
  clear hB htab hsyn hran
  unfold maxLen at hm
  by_cases hb : (1048576 : Int) < (len : Int)
  · go_enter Tryd.func3, Tryd.ntmps3
    go_wp2_with fail
    go_ret
    exact ⟨rfl, Below.refl _ _⟩
  · have hl : len ≤ 1048576 := by omega
    go_enter Tryd.func3, Tryd.ntmps3
    go_wp2_with fail
    refine (make_spot w a0 len cap 1 (by omega) hl HB.out).mono ?_
    rintro e w1 ⟨a, b, c, hS, rfl, hb1⟩
    have ha1 := below_bx2 hb1 (.cells #[.int .i64 a, .int .i64 b, .int .i64 c] 24)
    have H0 := has3_new w1 (.int .i64 a) (.int .i64 b) (.int .i64 c) 24
    go_wp2_with fail
    refine (make_spot _ a0 len cap 20 (by omega) hl (HB.out.below ha1)).mono ?_
    rintro e w2 ⟨x, y, d, hT, rfl, hb2⟩
    have ha2 := below_bx2 (below_to ha1 hb2) (.cells #[.int .i64 x, .int .i64 y, .int .i64 d] 24)
    have bx := below_box w2 (.cells #[.int .i64 x, .int .i64 y, .int .i64 d] 24)
    have H1 := has3_to (below_to hb2 bx) H0
    have T1 := has3_new w2 (.int .i64 x) (.int .i64 y) (.int .i64 d) 24
    clear H0 ha1 hb1 hb2 bx
    go_wp2_with fail
    generalize w2.alloc (.cells #[.int .i64 x, .int .i64 y, .int .i64 d] 24) = V2 at *
    generalize w1.heap.size = ga at *
    generalize w2.heap.size = gb at *
    refine (make_num _ a0 len cap 40 (by omega) hl (HB.out.below ha2)).mono ?_
    rintro e w3 ⟨n, ⟨n0, n1⟩, rfl, hb3⟩
    have ha3 := below_to ha2 hb3
    have H2 := has3_to hb3 H1
    have T2 := has3_to hb3 T1
    clear ha2 H1 T1 hb3
    have hk0 : -50 ≤ n % 100 - 50 := by omega
    have hk1 : n % 100 - 50 ≤ 49 := by omega
    obtain ⟨X1, Y1, X, Y, D, Z, S1, S2, M1, M2, F1, P1, O1, E1, K1, D0, D1, X0, X2, Y0, Y2, eX, eY⟩ := law_calls hS hT hk0 hk1
    obtain ⟨_, s1, s2, s3, s4, s5, s6⟩ := hS
    obtain ⟨_, t1, t2, t3, t4, t5, t6⟩ := hT
    unfold sp1 at S1 S2 M1 M2 P1 O1
    have S1 := Lib.hid S1
    have S2 := Lib.hid S2
    have M1 := Lib.hid M1
    have M2 := Lib.hid M2
    have F1 := Lib.hid F1
    have P1 := Lib.hid P1
    have O1 := Lib.hid O1
    have E1 := Lib.hid E1
    have K1 := Lib.hid K1
    have EX := Lib.hid eX
    have EY := Lib.hid eY
    clear eX eY
    obtain ⟨p0, p1, p2, _, _, _⟩ := id H2
    go_wp2_with fail
    generalize n % 100 - 50 = k at *
    clear p0 p1 p2
    refine (S1.out _).mono ?_
    rintro e w4 ⟨rfl, bl⟩
    have H2' := has3_to bl H2
    have T2' := has3_to bl T2
    have ha3' := below_to ha3 bl
    clear bl ha3 H2 T2
    go_wp2_with fail
    have S5 := has3_to (below_box w4 (.cells #[.int .i64 X1, .int .i64 Y1, .int .i64 c] 24)) H2'
    have T5 := has3_to (below_box w4 (.cells #[.int .i64 X1, .int .i64 Y1, .int .i64 c] 24)) T2'
    have I5 := has3_new w4 (.int .i64 X1) (.int .i64 Y1) (.int .i64 c) 24
    have ha5 := below_bx2 ha3' (.cells #[.int .i64 X1, .int .i64 Y1, .int .i64 c] 24)
    clear ha3' H2' T2'
    generalize w4.alloc (.cells #[.int .i64 X1, .int .i64 Y1, .int .i64 c] 24) = V5 at *
    generalize w4.heap.size = gi at *
    refine (S2.out _).mono ?_
    rintro e w6 ⟨rfl, bl⟩
    have S5' := has3_to bl S5
    have T5' := has3_to bl T5
    have I5' := has3_to bl I5
    have ha5' := below_to ha5 bl
    clear bl ha5 S5 T5 I5
    obtain ⟨sp0, sp1, sp2, _, _, _⟩ := id S5'
    have spz := has3_lt S5'
    obtain ⟨tp0, tp1, tp2, _, _, _⟩ := id T5'
    have tpz := has3_lt T5'
    go_wp2_with fail
    clear sp0 sp1 sp2 spz tp0 tp1 tp2 tpz
    have S7 := has3_to (below_box w6 (.cells #[.int .i64 a, .int .i64 b, .int .i64 c] 24)) S5'
    have T7 := has3_to (below_box w6 (.cells #[.int .i64 a, .int .i64 b, .int .i64 c] 24)) T5'
    have I7 := has3_to (below_box w6 (.cells #[.int .i64 a, .int .i64 b, .int .i64 c] 24)) I5'
    have J7 := has3_new w6 (.int .i64 a) (.int .i64 b) (.int .i64 c) 24
    have ha7 := below_bx2 ha5' (.cells #[.int .i64 a, .int .i64 b, .int .i64 c] 24)
    clear ha5' S5' T5' I5'
    generalize w6.alloc (.cells #[.int .i64 a, .int .i64 b, .int .i64 c] 24) = V7 at *
    generalize w6.heap.size = gj at *
    refine (M1.out _).mono ?_
    rintro e w8 ⟨rfl, bl⟩
    have S7' := has3_to bl S7
    have T7' := has3_to bl T7
    have I7' := has3_to bl I7
    have J7' := has3_to bl J7
    have ha7' := below_to ha7 bl
    clear bl ha7 S7 T7 I7 J7
    obtain ⟨sp0, sp1, sp2, _, _, _⟩ := id S7'
    have spz := has3_lt S7'
    obtain ⟨tp0, tp1, tp2, _, _, _⟩ := id T7'
    have tpz := has3_lt T7'
    go_wp2_with fail
    clear sp0 sp1 sp2 spz tp0 tp1 tp2 tpz
    have S9 := has3_to (below_box w8 (.cells #[.int .i64 X, .int .i64 Y, .int .i64 D] 24)) S7'
    have T9 := has3_to (below_box w8 (.cells #[.int .i64 X, .int .i64 Y, .int .i64 D] 24)) T7'
    have I9 := has3_to (below_box w8 (.cells #[.int .i64 X, .int .i64 Y, .int .i64 D] 24)) I7'
    have J9 := has3_to (below_box w8 (.cells #[.int .i64 X, .int .i64 Y, .int .i64 D] 24)) J7'
    have M9 := has3_new w8 (.int .i64 X) (.int .i64 Y) (.int .i64 D) 24
    have ha9 := below_bx2 ha7' (.cells #[.int .i64 X, .int .i64 Y, .int .i64 D] 24)
    clear ha7' S7' T7' I7' J7'
    generalize w8.alloc (.cells #[.int .i64 X, .int .i64 Y, .int .i64 D] 24) = V9 at *
    generalize w8.heap.size = gm at *
    refine (M2.out _).mono ?_
    rintro e w10 ⟨rfl, bl⟩
    have S9' := has3_to bl S9
    have T9' := has3_to bl T9
    have I9' := has3_to bl I9
    have J9' := has3_to bl J9
    have M9' := has3_to bl M9
    have ha9' := below_to ha9 bl
    clear bl ha9 S9 T9 I9 J9 M9
    obtain ⟨sp0, sp1, sp2, _, _, _⟩ := id S9'
    have spz := has3_lt S9'
    go_wp2_with fail
    clear sp0 sp1 sp2 spz
    have S11 := has3_to (below_box w10 (.cells #[.int .i64 X, .int .i64 Y, .int .i64 D] 24)) S9'
    have T11 := has3_to (below_box w10 (.cells #[.int .i64 X, .int .i64 Y, .int .i64 D] 24)) T9'
    have I11 := has3_to (below_box w10 (.cells #[.int .i64 X, .int .i64 Y, .int .i64 D] 24)) I9'
    have J11 := has3_to (below_box w10 (.cells #[.int .i64 X, .int .i64 Y, .int .i64 D] 24)) J9'
    have M11 := has3_to (below_box w10 (.cells #[.int .i64 X, .int .i64 Y, .int .i64 D] 24)) M9'
    have N11 := has3_new w10 (.int .i64 X) (.int .i64 Y) (.int .i64 D) 24
    have ha11 := below_bx2 ha9' (.cells #[.int .i64 X, .int .i64 Y, .int .i64 D] 24)
    clear ha9' S9' T9' I9' J9' M9'
    generalize w10.alloc (.cells #[.int .i64 X, .int .i64 Y, .int .i64 D] 24) = V11 at *
    generalize w10.heap.size = gn at *
    refine (F1.out _ (HV.out.below ha11)).mono ?_
    rintro e w12 ⟨rfl, bl⟩
    have S11' := has3_to bl S11
    have T11' := has3_to bl T11
    have I11' := has3_to bl I11
    have J11' := has3_to bl J11
    have M11' := has3_to bl M11
    have N11' := has3_to bl N11
    have ha11' := below_to ha11 bl
    clear bl ha11 S11 T11 I11 J11 M11 N11
    go_wp2_with fail
    refine (P1.out _ (HV.out.below ha11')).mono ?_
    rintro e w13 ⟨rfl, bl⟩
    have S11'' := has3_to bl S11'
    have T11'' := has3_to bl T11'
    have I11'' := has3_to bl I11'
    have J11'' := has3_to bl J11'
    have M11'' := has3_to bl M11'
    have N11'' := has3_to bl N11'
    have ha11'' := below_to ha11' bl
    clear bl ha11' S11' T11' I11' J11' M11' N11'
    obtain ⟨sp0, sp1, sp2, _, _, _⟩ := id S11''
    have spz := has3_lt S11''
    go_wp2_with fail
    clear sp0 sp1 sp2 spz
    have S14 := has3_to (below_box w13 (.cells #[.int .i64 a, .int .i64 b, .int .i64 c] 24)) S11''
    have T14 := has3_to (below_box w13 (.cells #[.int .i64 a, .int .i64 b, .int .i64 c] 24)) T11''
    have I14 := has3_to (below_box w13 (.cells #[.int .i64 a, .int .i64 b, .int .i64 c] 24)) I11''
    have J14 := has3_to (below_box w13 (.cells #[.int .i64 a, .int .i64 b, .int .i64 c] 24)) J11''
    have M14 := has3_to (below_box w13 (.cells #[.int .i64 a, .int .i64 b, .int .i64 c] 24)) M11''
    have N14 := has3_to (below_box w13 (.cells #[.int .i64 a, .int .i64 b, .int .i64 c] 24)) N11''
    have P14 := has3_new w13 (.int .i64 a) (.int .i64 b) (.int .i64 c) 24
    have ha14 := below_bx2 ha11'' (.cells #[.int .i64 a, .int .i64 b, .int .i64 c] 24)
    clear ha11'' S11'' T11'' I11'' J11'' M11'' N11''
    generalize w13.alloc (.cells #[.int .i64 a, .int .i64 b, .int .i64 c] 24) = V14 at *
    generalize w13.heap.size = gp at *
    obtain ⟨P1, e1⟩ : ∃ v, a * d = v := ⟨_, rfl⟩
    obtain ⟨P2, e2⟩ : ∃ v, x * c = v := ⟨_, rfl⟩
    obtain ⟨P3, e3⟩ : ∃ v, b * d = v := ⟨_, rfl⟩
    obtain ⟨P4, e4⟩ : ∃ v, y * c = v := ⟨_, rfl⟩
    obtain ⟨V1, e5⟩ : ∃ v, 2 * X * c = v := ⟨_, rfl⟩
    obtain ⟨V2, e6⟩ : ∃ v, 2 * Y * c = v := ⟨_, rfl⟩
    obtain ⟨V3, e7⟩ : ∃ v, V1 * d = v := ⟨_, rfl⟩
    obtain ⟨V4, e8⟩ : ∃ v, V2 * d = v := ⟨_, rfl⟩
    have b1 := small_prod s1 s2 t5 t6
    have b2 := small_prod t1 t2 s5 s6
    have b3 := small_prod s3 s4 t5 t6
    have b4 := small_prod t3 t4 s5 s6
    have b5 := mul_in (2 * X) c 400000 10 (by omega) (by omega) (by omega) s6
    have b6 := mul_in (2 * Y) c 400000 10 (by omega) (by omega) (by omega) s6
    rw [e1] at b1
    rw [e2] at b2
    rw [e3] at b3
    rw [e4] at b4
    rw [e5] at b5
    rw [e6] at b6
    have b7 := mul_in V1 d 4000000 10 (by omega) (by omega) (by omega) t6
    have b8 := mul_in V2 d 4000000 10 (by omega) (by omega) (by omega) t6
    rw [e7] at b7
    rw [e8] at b8
    have e9 := EX.out
    have e10 := EY.out
    rw [e1, e2, e5, e7] at e9
    rw [e3, e4, e6, e8] at e10
    have A := Lib.hid (And.intro e1 (And.intro e2 (And.intro e3 (And.intro e4 (And.intro e5 (And.intro e6 (And.intro e7 (And.intro e8 (And.intro e9.symm e10.symm)))))))))
    clear EX EY e1 e2 e3 e4 e5 e6 e7 e8 e9 e10
    refine (O1.out _).mono ?_
    rintro e w15 ⟨rfl, bl⟩
    have S14' := has3_to bl S14
    have T14' := has3_to bl T14
    have I14' := has3_to bl I14
    have J14' := has3_to bl J14
    have M14' := has3_to bl M14
    have N14' := has3_to bl N14
    have P14' := has3_to bl P14
    have ha14' := below_to ha14 bl
    clear bl ha14 S14 T14 I14 J14 M14 N14 P14
    obtain ⟨sp0, sp1, sp2, _, _, _⟩ := id S14'
    have spz := has3_lt S14'
    obtain ⟨jp0, jp1, jp2, _, _, _⟩ := id J14'
    have jpz := has3_lt J14'
    go_wp2_with fail
    clear sp0 sp1 sp2 spz jp0 jp1 jp2 jpz
    have S16 := has3_to (below_box w15 (.cells #[.int .i64 a, .int .i64 b, .int .i64 c] 24)) S14'
    have T16 := has3_to (below_box w15 (.cells #[.int .i64 a, .int .i64 b, .int .i64 c] 24)) T14'
    have I16 := has3_to (below_box w15 (.cells #[.int .i64 a, .int .i64 b, .int .i64 c] 24)) I14'
    have J16 := has3_to (below_box w15 (.cells #[.int .i64 a, .int .i64 b, .int .i64 c] 24)) J14'
    have M16 := has3_to (below_box w15 (.cells #[.int .i64 a, .int .i64 b, .int .i64 c] 24)) M14'
    have N16 := has3_to (below_box w15 (.cells #[.int .i64 a, .int .i64 b, .int .i64 c] 24)) N14'
    have P16 := has3_to (below_box w15 (.cells #[.int .i64 a, .int .i64 b, .int .i64 c] 24)) P14'
    have Q16 := has3_new w15 (.int .i64 a) (.int .i64 b) (.int .i64 c) 24
    have ha16 := below_bx2 ha14' (.cells #[.int .i64 a, .int .i64 b, .int .i64 c] 24)
    clear ha14' S14' T14' I14' J14' M14' N14' P14'
    generalize w15.alloc (.cells #[.int .i64 a, .int .i64 b, .int .i64 c] 24) = V16 at *
    generalize w15.heap.size = gq at *
    refine (E1.out _).mono ?_
    rintro e w17 ⟨rfl, bl⟩
    have S16' := has3_to bl S16
    have T16' := has3_to bl T16
    have I16' := has3_to bl I16
    have J16' := has3_to bl J16
    have M16' := has3_to bl M16
    have N16' := has3_to bl N16
    have P16' := has3_to bl P16
    have Q16' := has3_to bl Q16
    have ha16' := below_to ha16 bl
    clear bl ha16 S16 T16 I16 J16 M16 N16 P16 Q16
    obtain ⟨sp0, sp1, sp2, _, _, _⟩ := id S16'
    have spz := has3_lt S16'
    obtain ⟨jp0, jp1, jp2, _, _, _⟩ := id J16'
    have jpz := has3_lt J16'
    obtain ⟨mp0, mp1, mp2, _, _, _⟩ := id M16'
    have mpz := has3_lt M16'
    obtain ⟨np0, np1, np2, _, _, _⟩ := id N16'
    have npz := has3_lt N16'
    obtain ⟨pp0, pp1, pp2, _, _, _⟩ := id P16'
    have ppz := has3_lt P16'
    obtain ⟨qp0, qp1, qp2, _, _, _⟩ := id Q16'
    have qpz := has3_lt Q16'
    go_wp2_with fail
    clear sp0 sp1 sp2 spz jp0 jp1 jp2 jpz mp0 mp1 mp2 mpz np0 np1 np2 npz pp0 pp1 pp2 ppz qp0 qp1 qp2 qpz
    obtain ⟨e1, e2, e3, e4, e5, e6, e7, e8, e9, e10⟩ := A.out
    clear A
    refine (K1.out _).mono ?_
    rintro e w18 ⟨rfl, bl⟩
    have hfin := below_to ha16' bl
    obtain ⟨sp0, sp1, sp2, _, _, _⟩ := has3_to bl S16'
    obtain ⟨tp0, tp1, tp2, _, _, _⟩ := has3_to bl T16'
    obtain ⟨mp0, mp1, mp2, _, _, _⟩ := has3_to bl M16'
    clear bl
    go_wp2_with fail
    go_ret
    exact ⟨rfl, hfin⟩
end Go.Proofs.YtbdehelcpfkcmaaDoor
