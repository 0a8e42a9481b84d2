/- Spans of inputs: SpanOk, InSpan and MeetSpans of the model, over the translation. -/
import Derived.Test.YtibkmhmeoelpdaaGreatMo
import Derived.Test.YtibkmhmeoelpdaaGreatCg
namespace Go.Proofs.YtibkmhmeoelpdaaGreat
open Go.RowKit
open Geo (H3)

def I64 (n : Int) : Prop := -9223372036854775808 ≤ n ∧ n ≤ 9223372036854775807
/-- a valid span -/
def spnB (a b c d : Int) : Bool := okR a b && okR c d && decide (cmpR a b c d ≤ 0)
set_option maxHeartbeats 1600000 in
theorem spec_spn (a b c d : Int) (w : World) (ha : I64 a) (hb : I64 b) (hc : I64 c) (hd : I64 d) :
    Calls Tryz.prog 96 #[.agg #[.int .i64 a, .int .i64 b, .int .i64 c, .int .i64 d]] w fun e w' => e = .returned (.bool (spnB a b c d)) ∧ Below w.heap.size w w' := by
  have bV := below_one w (.cells #[.int .i64 a, .int .i64 b, .int .i64 c, .int .i64 d] 35)
  have K0 := blk_new w #[.int .i64 a, .int .i64 b, .int .i64 c, .int .i64 d] 35 (b := w.heap.size) (by simp)
  have H1 := Lib.hid (fun V => spec_ok a b V ha.1 ha.2 hb.1 hb.2)
  have H2 := Lib.hid (fun V => spec_ok c d V hc.1 hc.2 hd.1 hd.2)
  have H3 := Lib.hid (fun V => spec_cmp a b c d V ha.1 ha.2 hb.1 hb.2 hc.1 hc.2 hd.1 hd.2)
  clear ha hb hc hd
  have c0 := K0.cell0 (i := 0) (v := .int .i64 a) rfl
  have c1 := K0.cell0 (i := 1) (v := .int .i64 b) rfl
  have c2 := K0.cell0 (i := 2) (v := .int .i64 c) rfl
  have c3 := K0.cell0 (i := 3) (v := .int .i64 d) rfl
  go_enter Tryz.func96, Tryz.ntmps96
  go_wp2_with fail
  generalize (w.alloc (.cells #[.int .i64 a, .int .i64 b, .int .i64 c, .int .i64 d] 35)) = V at *
  refine (H1.out _).mono ?_
  rintro e w1 ⟨rfl, bl1⟩
  have b1 := below_to bV bl1
  have L0 := K0.to bl1
  clear c0 c1 c2 c3 K0 bV bl1
  cases h1 : okR a b with
  | false =>
    have HN := Lib.hid (show spnB a b c d = false by unfold spnB; rw [h1]; rfl)
    clear h1 L0
    go_wp2
    go_ret
    exact ⟨ret_bool HN.out.symm, b1⟩
  | true =>
    have G1 := Lib.hid h1
    clear h1
    have c0 := L0.cell0 (i := 0) (v := .int .i64 a) rfl
    have c1 := L0.cell0 (i := 1) (v := .int .i64 b) rfl
    have c2 := L0.cell0 (i := 2) (v := .int .i64 c) rfl
    have c3 := L0.cell0 (i := 3) (v := .int .i64 d) rfl
    go_wp2_with fail
    refine (H2.out _).mono ?_
    rintro e w2 ⟨rfl, bl2⟩
    have b2 := below_to b1 bl2
    have L1 := L0.to bl2
    clear c0 c1 c2 c3 L0 b1 bl2
    cases h2 : okR c d with
    | false =>
      have HN := Lib.hid (show spnB a b c d = false by unfold spnB; rw [h2, Bool.and_false]; rfl)
      clear h2 L1
      go_wp2
      go_ret
      exact ⟨ret_bool HN.out.symm, b2⟩
    | true =>
      have HN := Lib.hid (show spnB a b c d = decide (cmpR a b c d ≤ 0) by unfold spnB; rw [G1.out, h2]; rfl)
      rw [cmpO_of G1.out h2] at H3
      clear h2
      have hb3 := cmpR_bounds a b c d
      generalize cmpR a b c d = r at *
      have c0 := L1.cell0 (i := 0) (v := .int .i64 a) rfl
      have c1 := L1.cell0 (i := 1) (v := .int .i64 b) rfl
      have c2 := L1.cell0 (i := 2) (v := .int .i64 c) rfl
      have c3 := L1.cell0 (i := 3) (v := .int .i64 d) rfl
      go_wp2_with fail
      refine (H3.out _).mono ?_
      rintro e w3 ⟨rfl, bl3⟩
      have b3 := below_to b2 bl3
      clear c0 c1 c2 c3 L1
      go_wp2_with fail
      go_ret
      exact ⟨ret_bool HN.out.symm, b3⟩
end Go.Proofs.YtibkmhmeoelpdaaGreat
