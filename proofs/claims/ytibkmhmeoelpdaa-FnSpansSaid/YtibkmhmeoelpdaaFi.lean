/- Spans of inputs of the program: SpanOk, spanIfOk, InSpan, MeetSpans. -/
import Derived.Test.YtibkmhmeoelpdaaFa
import Derived.Test.YtibkmhmeoelpdaaFb
namespace Go.Proofs.Ytibkmhmeoelpdaa
open Go.RowKit
open Geo (H3)

set_option maxHeartbeats 1600000 in
theorem impl_spn (a b c d : Int) (w : World) (ha : I64 a) (hb : I64 b) (hc : I64 c) (hd : I64 d) :
    Calls Try.prog 12 #[.agg #[.int .i64 a, .int .i64 b, .int .i64 c, .int .i64 d]] w fun e w' => e = .returned (.bool (spnB a b c d)) ∧ Below w.heap.size w w' := by
  have bV := below_one w (.cells #[.int .i64 a, .int .i64 b, .int .i64 c, .int .i64 d] 29)
  have K0 := blk_new w #[.int .i64 a, .int .i64 b, .int .i64 c, .int .i64 d] 29 (b := w.heap.size) (by simp)
  have H1 := Lib.hid (fun V => impl_ok a b V ha.1 ha.2 hb.1 hb.2)
  have H2 := Lib.hid (fun V => impl_ok c d V hc.1 hc.2 hd.1 hd.2)
  have H3 := Lib.hid (fun V => impl_cmp a b c d V ha.1 ha.2 hb.1 hb.2 hc.1 hc.2 hd.1 hd.2)
  clear ha hb hc hd
  have c0 := K0.cell0 (i := 0) (v := .int .i64 a) rfl
  have c1 := K0.cell0 (i := 1) (v := .int .i64 b) rfl
  have c2 := K0.cell0 (i := 2) (v := .int .i64 c) rfl
  have c3 := K0.cell0 (i := 3) (v := .int .i64 d) rfl
  go_enter Try.func12, Try.ntmps12
  go_wp2_with fail
  generalize (w.alloc (.cells #[.int .i64 a, .int .i64 b, .int .i64 c, .int .i64 d] 29)) = V at *
  refine (H1.out _).mono ?_
  rintro e w1 ⟨rfl, bl1⟩
  have b1 := below_to bV bl1
  have L0 := K0.to bl1
  clear c0 c1 c2 c3 K0 bV bl1
  cases h1 : okR a b with
  | false =>
    have HN := Lib.hid (show spnB a b c d = false by unfold spnB; rw [h1]; rfl)
    clear h1 L0
    go_wp2
    go_ret
    exact ⟨ret_bool HN.out.symm, b1⟩
  | true =>
    have G1 := Lib.hid h1
    clear h1
    have c0 := L0.cell0 (i := 0) (v := .int .i64 a) rfl
    have c1 := L0.cell0 (i := 1) (v := .int .i64 b) rfl
    have c2 := L0.cell0 (i := 2) (v := .int .i64 c) rfl
    have c3 := L0.cell0 (i := 3) (v := .int .i64 d) rfl
    go_wp2_with fail
    refine (H2.out _).mono ?_
    rintro e w2 ⟨rfl, bl2⟩
    have b2 := below_to b1 bl2
    have L1 := L0.to bl2
    clear c0 c1 c2 c3 L0 b1 bl2
    cases h2 : okR c d with
    | false =>
      have HN := Lib.hid (show spnB a b c d = false by unfold spnB; rw [h2, Bool.and_false]; rfl)
      clear h2 L1
      go_wp2
      go_ret
      exact ⟨ret_bool HN.out.symm, b2⟩
    | true =>
      have HN := Lib.hid (show spnB a b c d = decide (cmpR a b c d ≤ 0) by unfold spnB; rw [G1.out, h2]; rfl)
      rw [cmpO_of G1.out h2] at H3
      clear h2
      have hb3 := cmpR_bounds a b c d
      generalize cmpR a b c d = r at *
      have c0 := L1.cell0 (i := 0) (v := .int .i64 a) rfl
      have c1 := L1.cell0 (i := 1) (v := .int .i64 b) rfl
      have c2 := L1.cell0 (i := 2) (v := .int .i64 c) rfl
      have c3 := L1.cell0 (i := 3) (v := .int .i64 d) rfl
      go_wp2_with fail
      refine (H3.out _).mono ?_
      rintro e w3 ⟨rfl, bl3⟩
      have b3 := below_to b2 bl3
      clear c0 c1 c2 c3 L1
      go_wp2_with fail
      go_ret
      exact ⟨ret_bool HN.out.symm, b3⟩
set_option maxHeartbeats 1600000 in
theorem impl_isp (a b c d n m : Int) (w : World) (ha : I64 a) (hb : I64 b) (hc : I64 c) (hd : I64 d) (hn : I64 n) (hm : I64 m) :
    Calls Try.prog 15 #[.agg #[.int .i64 a, .int .i64 b, .int .i64 c, .int .i64 d], .agg #[.int .i64 n, .int .i64 m]] w fun e w' => e = .returned (.bool (ispB a b c d n m)) ∧ Below w.heap.size w w' := by
  have bV := below_bx2 (below_one w (.cells #[.int .i64 a, .int .i64 b, .int .i64 c, .int .i64 d] 29)) (.cells #[.int .i64 n, .int .i64 m] 27)
  have K0 := (blk_new w #[.int .i64 a, .int .i64 b, .int .i64 c, .int .i64 d] 29 (b := w.heap.size) (by simp)).to (below_one _ (.cells #[.int .i64 n, .int .i64 m] 27))
  have K1 := blk_new (w.alloc (.cells #[.int .i64 a, .int .i64 b, .int .i64 c, .int .i64 d] 29)) #[.int .i64 n, .int .i64 m] 27 (b := w.heap.size + 1) (by simp)
  have H1 := Lib.hid (fun V => impl_spn a b c d V ha hb hc hd)
  have H2 := Lib.hid (fun V => impl_ok n m V hn.1 hn.2 hm.1 hm.2)
  have H3 := Lib.hid (fun V => impl_cmp a b n m V ha.1 ha.2 hb.1 hb.2 hn.1 hn.2 hm.1 hm.2)
  have H4 := Lib.hid (fun V => impl_cmp n m c d V hn.1 hn.2 hm.1 hm.2 hc.1 hc.2 hd.1 hd.2)
  clear ha hb hc hd hn hm
  have c0 := K0.cell0 (i := 0) (v := .int .i64 a) rfl
  have c1 := K0.cell0 (i := 1) (v := .int .i64 b) rfl
  have c2 := K0.cell0 (i := 2) (v := .int .i64 c) rfl
  have c3 := K0.cell0 (i := 3) (v := .int .i64 d) rfl
  have u0 := K1.cell0 (i := 0) (v := .int .i64 n) rfl
  have u1 := K1.cell0 (i := 1) (v := .int .i64 m) rfl
  go_enter Try.func15, Try.ntmps15
  go_wp2_with fail
  generalize ((w.alloc (.cells #[.int .i64 a, .int .i64 b, .int .i64 c, .int .i64 d] 29)).alloc (.cells #[.int .i64 n, .int .i64 m] 27)) = V at *
  refine (H1.out _).mono ?_
  rintro e w1 ⟨rfl, bl1⟩
  have b1 := below_to bV bl1
  have L0 := K0.to bl1
  have L1 := K1.to bl1
  clear c0 c1 c2 c3 u0 u1 K0 K1 bV bl1
  cases h1 : spnB a b c d with
  | false =>
    have HN := Lib.hid (show ispB a b c d n m = false by unfold ispB; rw [h1]; rfl)
    clear h1 L0 L1
    go_wp2
    go_ret
    exact ⟨ret_bool HN.out.symm, b1⟩
  | true =>
    have G1 := Lib.hid h1
    clear h1
    have c0 := L0.cell0 (i := 0) (v := .int .i64 a) rfl
    have c1 := L0.cell0 (i := 1) (v := .int .i64 b) rfl
    have c2 := L0.cell0 (i := 2) (v := .int .i64 c) rfl
    have c3 := L0.cell0 (i := 3) (v := .int .i64 d) rfl
    have u0 := L1.cell0 (i := 0) (v := .int .i64 n) rfl
    have u1 := L1.cell0 (i := 1) (v := .int .i64 m) rfl
    go_wp2_with fail
    refine (H2.out _).mono ?_
    rintro e w2 ⟨rfl, bl2⟩
    have b2 := below_to b1 bl2
    have M0 := L0.to bl2
    have M1 := L1.to bl2
    clear c0 c1 c2 c3 u0 u1 L0 L1 b1 bl2
    cases h2 : okR n m with
    | false =>
      have HN := Lib.hid (show ispB a b c d n m = false by unfold ispB; rw [h2]; simp)
      clear h2 M0 M1
      go_wp2
      go_ret
      exact ⟨ret_bool HN.out.symm, b2⟩
    | true =>
      have HN := Lib.hid (show ispB a b c d n m = (decide (cmpR a b n m ≤ 0) && decide (cmpR n m c d ≤ 0)) by unfold ispB; rw [G1.out, h2]; rfl)
      rw [cmpO_of (spn_ok G1.out).1 h2] at H3
      rw [cmpO_of h2 (spn_ok G1.out).2.1] at H4
      clear h2
      have hb3 := cmpR_bounds a b n m
      have hb4 := cmpR_bounds n m c d
      generalize cmpR a b n m = r at *
      generalize cmpR n m c d = r2 at *
      have c0 := M0.cell0 (i := 0) (v := .int .i64 a) rfl
      have c1 := M0.cell0 (i := 1) (v := .int .i64 b) rfl
      have c2 := M0.cell0 (i := 2) (v := .int .i64 c) rfl
      have c3 := M0.cell0 (i := 3) (v := .int .i64 d) rfl
      have u0 := M1.cell0 (i := 0) (v := .int .i64 n) rfl
      have u1 := M1.cell0 (i := 1) (v := .int .i64 m) rfl
      go_wp2_with fail
      refine (H3.out _).mono ?_
      rintro e w3 ⟨rfl, bl3⟩
      have b3 := below_to b2 bl3
      have L0 := M0.to bl3
      have L1 := M1.to bl3
      clear c0 c1 c2 c3 u0 u1 M0 M1 bl3 b2
      by_cases hr : r ≤ 0
      · have hrd : decide (r ≤ 0) = true := decide_eq_true hr
        have HK := Lib.hid (show ispB a b c d n m = decide (r2 ≤ 0) by rw [HN.out, hrd, Bool.true_and])
        have c0 := L0.cell0 (i := 0) (v := .int .i64 a) rfl
        have c1 := L0.cell0 (i := 1) (v := .int .i64 b) rfl
        have c2 := L0.cell0 (i := 2) (v := .int .i64 c) rfl
        have c3 := L0.cell0 (i := 3) (v := .int .i64 d) rfl
        have u0 := L1.cell0 (i := 0) (v := .int .i64 n) rfl
        have u1 := L1.cell0 (i := 1) (v := .int .i64 m) rfl
        go_wp2_with fail
        refine (H4.out _).mono ?_
        rintro e w4 ⟨rfl, bl4⟩
        have b4 := below_to b3 bl4
        clear c0 c1 c2 c3 u0 u1 L0 L1
        go_wp2_with fail
        go_ret
        exact ⟨ret_bool HK.out.symm, b4⟩
      · have hrd : decide (r ≤ 0) = false := decide_eq_false hr
        have HK := Lib.hid (show ispB a b c d n m = false by rw [HN.out, hrd, Bool.false_and])
        clear L0 L1
        go_wp2
        go_ret
        exact ⟨ret_bool HK.out.symm, b3⟩
/-- a span, if it is valid -/
def sifA (a b c d : Int) (x : Int) : Int := if spnB a b c d = true then x else 0
theorem sif_no {a b c d : Int} (h : spnB a b c d = false) (x : Int) : sifA a b c d x = 0 := by unfold sifA; rw [h]; rfl
theorem sif_yes {a b c d : Int} (h : spnB a b c d = true) (x : Int) : sifA a b c d x = x := by unfold sifA; rw [h]; rfl
set_option maxHeartbeats 1600000 in
theorem impl_sif (a b c d : Int) (w : World) (ha : I64 a) (hb : I64 b) (hc : I64 c) (hd : I64 d) :
    Calls Try.prog 48 #[.agg #[.int .i64 a, .int .i64 b, .int .i64 c, .int .i64 d]] w fun e w' => e = .returned (.tuple #[.agg #[.int .i64 (sifA a b c d a), .int .i64 (sifA a b c d b), .int .i64 (sifA a b c d c), .int .i64 (sifA a b c d d)], .bool (spnB a b c d)]) ∧ Below w.heap.size w w' := by
  have bV := below_bx2 (below_one w (.cells #[.int .i64 a, .int .i64 b, .int .i64 c, .int .i64 d] 29)) (.cells #[.int .i64 0, .int .i64 0, .int .i64 0, .int .i64 0] 29)
  have K0 := (blk_new w #[.int .i64 a, .int .i64 b, .int .i64 c, .int .i64 d] 29 (b := w.heap.size) (by simp)).to (below_one _ (.cells #[.int .i64 0, .int .i64 0, .int .i64 0, .int .i64 0] 29))
  have K1 := blk_new (w.alloc (.cells #[.int .i64 a, .int .i64 b, .int .i64 c, .int .i64 d] 29)) #[.int .i64 0, .int .i64 0, .int .i64 0, .int .i64 0] 29 (b := w.heap.size + 1) (by simp)
  have H1 := Lib.hid (fun V => impl_spn a b c d V ha hb hc hd)
  clear ha hb hc hd
  have a0 := K0.cell0 (i := 0) (v := .int .i64 a) rfl
  have a1 := K0.cell0 (i := 1) (v := .int .i64 b) rfl
  have a2 := K0.cell0 (i := 2) (v := .int .i64 c) rfl
  have a3 := K0.cell0 (i := 3) (v := .int .i64 d) rfl
  go_enter Try.func48, Try.ntmps48
  go_wp2_with fail
  generalize ((w.alloc (.cells #[.int .i64 a, .int .i64 b, .int .i64 c, .int .i64 d] 29)).alloc (.cells #[.int .i64 0, .int .i64 0, .int .i64 0, .int .i64 0] 29)) = V at *
  clear a0 a1 a2 a3
  refine (H1.out _).mono ?_
  rintro e w1 ⟨rfl, bl1⟩
  have b1 := below_to bV bl1
  have L0 := K0.to bl1
  have L1 := K1.to bl1
  clear K0 K1 bV bl1
  cases h1 : spnB a b c d with
  | false =>
    have N := Lib.hid (fun x => sif_no h1 x)
    have HB := Lib.hid h1
    have z0 := L1.cell0 (i := 0) (v := .int .i64 0) rfl
    have z1 := L1.cell0 (i := 1) (v := .int .i64 0) rfl
    have z2 := L1.cell0 (i := 2) (v := .int .i64 0) rfl
    have z3 := L1.cell0 (i := 3) (v := .int .i64 0) rfl
    have f0 := L1.free 0
    have f1 := L1.free 1
    have f2 := L1.free 2
    have f3 := L1.free 3
    clear h1 L0
    go_wp2_with fail
    exact bodyPost_ret (v := .tuple #[.agg #[.int .i64 0, .int .i64 0, .int .i64 0, .int .i64 0], .bool false]) (by simp [results, Try.results48, go_sem, z0, z1, z2, z3]) rfl ⟨by rw [N.out, N.out, N.out, N.out, HB.out], ((((b1.setCell (p := ⟨w.heap.size + 1, 0, none⟩) (Nat.le_add_right _ _) (.int .i64 0)).setCell (p := ⟨w.heap.size + 1, 1, none⟩) (Nat.le_add_right _ _) (.int .i64 0)).setCell (p := ⟨w.heap.size + 1, 2, none⟩) (Nat.le_add_right _ _) (.int .i64 0)).setCell (p := ⟨w.heap.size + 1, 3, none⟩) (Nat.le_add_right _ _) (.int .i64 0))⟩
  | true =>
    have N := Lib.hid (fun x => sif_yes h1 x)
    have HB := Lib.hid h1
    have z0 := L1.cell0 (i := 0) (v := .int .i64 0) rfl
    have z1 := L1.cell0 (i := 1) (v := .int .i64 0) rfl
    have z2 := L1.cell0 (i := 2) (v := .int .i64 0) rfl
    have z3 := L1.cell0 (i := 3) (v := .int .i64 0) rfl
    have f0 := L1.free 0
    have f1 := L1.free 1
    have f2 := L1.free 2
    have f3 := L1.free 3
    have a0 := L0.cell0 (i := 0) (v := .int .i64 a) rfl
    have a1 := L0.cell0 (i := 1) (v := .int .i64 b) rfl
    have a2 := L0.cell0 (i := 2) (v := .int .i64 c) rfl
    have a3 := L0.cell0 (i := 3) (v := .int .i64 d) rfl
    clear h1
    go_wp2_with fail
    exact bodyPost_ret (v := .tuple #[.agg #[.int .i64 a, .int .i64 b, .int .i64 c, .int .i64 d], .bool true]) (by simp [results, Try.results48, go_sem, z0, z1, z2, z3]) rfl ⟨by rw [N.out, N.out, N.out, N.out, HB.out], ((((b1.setCell (p := ⟨w.heap.size + 1, 0, none⟩) (Nat.le_add_right _ _) (.int .i64 a)).setCell (p := ⟨w.heap.size + 1, 1, none⟩) (Nat.le_add_right _ _) (.int .i64 b)).setCell (p := ⟨w.heap.size + 1, 2, none⟩) (Nat.le_add_right _ _) (.int .i64 c)).setCell (p := ⟨w.heap.size + 1, 3, none⟩) (Nat.le_add_right _ _) (.int .i64 d))⟩
end Go.Proofs.Ytibkmhmeoelpdaa
