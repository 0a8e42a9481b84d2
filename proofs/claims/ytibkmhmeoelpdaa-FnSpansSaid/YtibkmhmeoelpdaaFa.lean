/- Spans of inputs: SpanOk, InSpan and MeetSpans of the model, over the translation. -/
import Derived.Test.YtibkmhmeoelpdaaMo
import Derived.Test.YtibkmhmeoelpdaaCg
namespace Go.Proofs.Ytibkmhmeoelpdaa
open Go.RowKit
open Geo (H3)

def I64 (n : Int) : Prop := -9223372036854775808 ≤ n ∧ n ≤ 9223372036854775807
/-- a valid span -/
def spnB (a b c d : Int) : Bool := okR a b && okR c d && decide (cmpR a b c d ≤ 0)
/-- whether an input lies in a span -/
def ispB (a b c d n m : Int) : Bool := spnB a b c d && okR n m && decide (cmpR a b n m ≤ 0) && decide (cmpR n m c d ≤ 0)
theorem spn_ok {a b c d : Int} (h : spnB a b c d = true) : okR a b = true ∧ okR c d = true ∧ cmpR a b c d ≤ 0 := by
  unfold spnB at h
  simp only [Bool.and_eq_true, decide_eq_true_eq] at h
  exact ⟨h.1.1, h.1.2, h.2⟩
set_option maxHeartbeats 1600000 in
theorem spec_spn (a b c d : Int) (w : World) (ha : I64 a) (hb : I64 b) (hc : I64 c) (hd : I64 d) :
    Calls Try.prog 10 #[.agg #[.int .i64 a, .int .i64 b, .int .i64 c, .int .i64 d]] w fun e w' => e = .returned (.bool (spnB a b c d)) ∧ Below w.heap.size w w' := by
  have bV := below_one w (.cells #[.int .i64 a, .int .i64 b, .int .i64 c, .int .i64 d] 29)
  have K0 := blk_new w #[.int .i64 a, .int .i64 b, .int .i64 c, .int .i64 d] 29 (b := w.heap.size) (by simp)
  have H1 := Lib.hid (fun V => spec_ok a b V ha.1 ha.2 hb.1 hb.2)
  have H2 := Lib.hid (fun V => spec_ok c d V hc.1 hc.2 hd.1 hd.2)
  have H3 := Lib.hid (fun V => spec_cmp a b c d V ha.1 ha.2 hb.1 hb.2 hc.1 hc.2 hd.1 hd.2)
  clear ha hb hc hd
  have c0 := K0.cell0 (i := 0) (v := .int .i64 a) rfl
  have c1 := K0.cell0 (i := 1) (v := .int .i64 b) rfl
  have c2 := K0.cell0 (i := 2) (v := .int .i64 c) rfl
  have c3 := K0.cell0 (i := 3) (v := .int .i64 d) rfl
  go_enter Try.func10, Try.ntmps10
  go_wp2_with fail
  generalize (w.alloc (.cells #[.int .i64 a, .int .i64 b, .int .i64 c, .int .i64 d] 29)) = V at *
  refine (H1.out _).mono ?_
  rintro e w1 ⟨rfl, bl1⟩
  have b1 := below_to bV bl1
  have L0 := K0.to bl1
  clear c0 c1 c2 c3 K0 bV bl1
  cases h1 : okR a b with
  | false =>
    have HN := Lib.hid (show spnB a b c d = false by unfold spnB; rw [h1]; rfl)
    clear h1 L0
    go_wp2
    go_ret
    exact ⟨ret_bool HN.out.symm, b1⟩
  | true =>
    have G1 := Lib.hid h1
    clear h1
    have c0 := L0.cell0 (i := 0) (v := .int .i64 a) rfl
    have c1 := L0.cell0 (i := 1) (v := .int .i64 b) rfl
    have c2 := L0.cell0 (i := 2) (v := .int .i64 c) rfl
    have c3 := L0.cell0 (i := 3) (v := .int .i64 d) rfl
    go_wp2_with fail
    refine (H2.out _).mono ?_
    rintro e w2 ⟨rfl, bl2⟩
    have b2 := below_to b1 bl2
    have L1 := L0.to bl2
    clear c0 c1 c2 c3 L0 b1 bl2
    cases h2 : okR c d with
    | false =>
      have HN := Lib.hid (show spnB a b c d = false by unfold spnB; rw [h2, Bool.and_false]; rfl)
      clear h2 L1
      go_wp2
      go_ret
      exact ⟨ret_bool HN.out.symm, b2⟩
    | true =>
      have HN := Lib.hid (show spnB a b c d = decide (cmpR a b c d ≤ 0) by unfold spnB; rw [G1.out, h2]; rfl)
      rw [cmpO_of G1.out h2] at H3
      clear h2
      have hb3 := cmpR_bounds a b c d
      generalize cmpR a b c d = r at *
      have c0 := L1.cell0 (i := 0) (v := .int .i64 a) rfl
      have c1 := L1.cell0 (i := 1) (v := .int .i64 b) rfl
      have c2 := L1.cell0 (i := 2) (v := .int .i64 c) rfl
      have c3 := L1.cell0 (i := 3) (v := .int .i64 d) rfl
      go_wp2_with fail
      refine (H3.out _).mono ?_
      rintro e w3 ⟨rfl, bl3⟩
      have b3 := below_to b2 bl3
      clear c0 c1 c2 c3 L1
      go_wp2_with fail
      go_ret
      exact ⟨ret_bool HN.out.symm, b3⟩
set_option maxHeartbeats 1600000 in
theorem spec_isp (a b c d n m : Int) (w : World) (ha : I64 a) (hb : I64 b) (hc : I64 c) (hd : I64 d) (hn : I64 n) (hm : I64 m) :
    Calls Try.prog 13 #[.agg #[.int .i64 a, .int .i64 b, .int .i64 c, .int .i64 d], .agg #[.int .i64 n, .int .i64 m]] w fun e w' => e = .returned (.bool (ispB a b c d n m)) ∧ Below w.heap.size w w' := by
  have bV := below_bx2 (below_one w (.cells #[.int .i64 a, .int .i64 b, .int .i64 c, .int .i64 d] 29)) (.cells #[.int .i64 n, .int .i64 m] 27)
  have K0 := (blk_new w #[.int .i64 a, .int .i64 b, .int .i64 c, .int .i64 d] 29 (b := w.heap.size) (by simp)).to (below_one _ (.cells #[.int .i64 n, .int .i64 m] 27))
  have K1 := blk_new (w.alloc (.cells #[.int .i64 a, .int .i64 b, .int .i64 c, .int .i64 d] 29)) #[.int .i64 n, .int .i64 m] 27 (b := w.heap.size + 1) (by simp)
  have H1 := Lib.hid (fun V => spec_spn a b c d V ha hb hc hd)
  have H2 := Lib.hid (fun V => spec_ok n m V hn.1 hn.2 hm.1 hm.2)
  have H3 := Lib.hid (fun V => spec_cmp a b n m V ha.1 ha.2 hb.1 hb.2 hn.1 hn.2 hm.1 hm.2)
  have H4 := Lib.hid (fun V => spec_cmp n m c d V hn.1 hn.2 hm.1 hm.2 hc.1 hc.2 hd.1 hd.2)
  clear ha hb hc hd hn hm
  have c0 := K0.cell0 (i := 0) (v := .int .i64 a) rfl
  have c1 := K0.cell0 (i := 1) (v := .int .i64 b) rfl
  have c2 := K0.cell0 (i := 2) (v := .int .i64 c) rfl
  have c3 := K0.cell0 (i := 3) (v := .int .i64 d) rfl
  have u0 := K1.cell0 (i := 0) (v := .int .i64 n) rfl
  have u1 := K1.cell0 (i := 1) (v := .int .i64 m) rfl
  go_enter Try.func13, Try.ntmps13
  go_wp2_with fail
  generalize ((w.alloc (.cells #[.int .i64 a, .int .i64 b, .int .i64 c, .int .i64 d] 29)).alloc (.cells #[.int .i64 n, .int .i64 m] 27)) = V at *
  refine (H1.out _).mono ?_
  rintro e w1 ⟨rfl, bl1⟩
  have b1 := below_to bV bl1
  have L0 := K0.to bl1
  have L1 := K1.to bl1
  clear c0 c1 c2 c3 u0 u1 K0 K1 bV bl1
  cases h1 : spnB a b c d with
  | false =>
    have HN := Lib.hid (show ispB a b c d n m = false by unfold ispB; rw [h1]; rfl)
    clear h1 L0 L1
    go_wp2
    go_ret
    exact ⟨ret_bool HN.out.symm, b1⟩
  | true =>
    have G1 := Lib.hid h1
    clear h1
    have c0 := L0.cell0 (i := 0) (v := .int .i64 a) rfl
    have c1 := L0.cell0 (i := 1) (v := .int .i64 b) rfl
    have c2 := L0.cell0 (i := 2) (v := .int .i64 c) rfl
    have c3 := L0.cell0 (i := 3) (v := .int .i64 d) rfl
    have u0 := L1.cell0 (i := 0) (v := .int .i64 n) rfl
    have u1 := L1.cell0 (i := 1) (v := .int .i64 m) rfl
    go_wp2_with fail
    refine (H2.out _).mono ?_
    rintro e w2 ⟨rfl, bl2⟩
    have b2 := below_to b1 bl2
    have M0 := L0.to bl2
    have M1 := L1.to bl2
    clear c0 c1 c2 c3 u0 u1 L0 L1 b1 bl2
    cases h2 : okR n m with
    | false =>
      have HN := Lib.hid (show ispB a b c d n m = false by unfold ispB; rw [h2]; simp)
      clear h2 M0 M1
      go_wp2
      go_ret
      exact ⟨ret_bool HN.out.symm, b2⟩
    | true =>
      have HN := Lib.hid (show ispB a b c d n m = (decide (cmpR a b n m ≤ 0) && decide (cmpR n m c d ≤ 0)) by unfold ispB; rw [G1.out, h2]; rfl)
      rw [cmpO_of (spn_ok G1.out).1 h2] at H3
      rw [cmpO_of h2 (spn_ok G1.out).2.1] at H4
      clear h2
      have hb3 := cmpR_bounds a b n m
      have hb4 := cmpR_bounds n m c d
      generalize cmpR a b n m = r at *
      generalize cmpR n m c d = r2 at *
      have c0 := M0.cell0 (i := 0) (v := .int .i64 a) rfl
      have c1 := M0.cell0 (i := 1) (v := .int .i64 b) rfl
      have c2 := M0.cell0 (i := 2) (v := .int .i64 c) rfl
      have c3 := M0.cell0 (i := 3) (v := .int .i64 d) rfl
      have u0 := M1.cell0 (i := 0) (v := .int .i64 n) rfl
      have u1 := M1.cell0 (i := 1) (v := .int .i64 m) rfl
      go_wp2_with fail
      refine (H3.out _).mono ?_
      rintro e w3 ⟨rfl, bl3⟩
      have b3 := below_to b2 bl3
      have L0 := M0.to bl3
      have L1 := M1.to bl3
      clear c0 c1 c2 c3 u0 u1 M0 M1 bl3 b2
      by_cases hr : r ≤ 0
      · have hrd : decide (r ≤ 0) = true := decide_eq_true hr
        have HK := Lib.hid (show ispB a b c d n m = decide (r2 ≤ 0) by rw [HN.out, hrd, Bool.true_and])
        have c0 := L0.cell0 (i := 0) (v := .int .i64 a) rfl
        have c1 := L0.cell0 (i := 1) (v := .int .i64 b) rfl
        have c2 := L0.cell0 (i := 2) (v := .int .i64 c) rfl
        have c3 := L0.cell0 (i := 3) (v := .int .i64 d) rfl
        have u0 := L1.cell0 (i := 0) (v := .int .i64 n) rfl
        have u1 := L1.cell0 (i := 1) (v := .int .i64 m) rfl
        go_wp2_with fail
        refine (H4.out _).mono ?_
        rintro e w4 ⟨rfl, bl4⟩
        have b4 := below_to b3 bl4
        clear c0 c1 c2 c3 u0 u1 L0 L1
        go_wp2_with fail
        go_ret
        exact ⟨ret_bool HK.out.symm, b4⟩
      · have hrd : decide (r ≤ 0) = false := decide_eq_false hr
        have HK := Lib.hid (show ispB a b c d n m = false by rw [HN.out, hrd, Bool.false_and])
        clear L0 L1
        go_wp2
        go_ret
        exact ⟨ret_bool HK.out.symm, b3⟩
end Go.Proofs.Ytibkmhmeoelpdaa
