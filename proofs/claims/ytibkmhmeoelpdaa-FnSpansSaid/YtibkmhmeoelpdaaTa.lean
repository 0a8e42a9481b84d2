/- The walks of the laws of SpanOk and InSpan. -/
import Derived.Test.YtibkmhmeoelpdaaSn
import Derived.Test.YtibkmhmeoelpdaaFi
import Derived.Test.YtibkmhmeoelpdaaFp
namespace Go.Proofs.Ytibkmhmeoelpdaa
open Go.RowKit
open Geo (H3)

set_option maxHeartbeats 3200000 in
theorem law_spn (a b c d : Int) (wa : (Lit.int .i64 a).wf = true) (wb : (Lit.int .i64 b).wf = true) (wc : (Lit.int .i64 c).wf = true) (wd : (Lit.int .i64 d).wf = true) (w : World) :
    Calls Try.prog 3 #[.agg #[.int .i64 a, .int .i64 b, .int .i64 c, .int .i64 d]] w fun e w' => e = .returned (.bool true) ∧ Below w.heap.size w w' := by
  have ha : I64 a := bounds_i64 wa
  have hb : I64 b := bounds_i64 wb
  have hc : I64 c := bounds_i64 wc
  have hd : I64 d := bounds_i64 wd
  clear wa wb wc wd
  have bV := below_one w (.cells #[.int .i64 a, .int .i64 b, .int .i64 c, .int .i64 d] 25)
  have K0 := blk_new w #[.int .i64 a, .int .i64 b, .int .i64 c, .int .i64 d] 25 (b := w.heap.size) (by simp)
  have HS := Lib.hid (fun V => spec_spn a b c d V ha hb hc hd)
  have HI := Lib.hid (fun V => impl_spn a b c d V ha hb hc hd)
  generalize spnB a b c d = r at *
  clear ha hb hc hd
  have c0 := K0.cell0 (i := 0) (v := .int .i64 a) rfl
  have c1 := K0.cell0 (i := 1) (v := .int .i64 b) rfl
  have c2 := K0.cell0 (i := 2) (v := .int .i64 c) rfl
  have c3 := K0.cell0 (i := 3) (v := .int .i64 d) rfl
  go_enter Try.func3, Try.ntmps3
  go_wp2_with fail
  clear c0 c1 c2 c3
  generalize (w.alloc (.cells #[.int .i64 a, .int .i64 b, .int .i64 c, .int .i64 d] 25)) = V at *
  refine (to_span a b c d _).mono ?_
  rintro e v1 ⟨rfl, bl⟩
  have K_1 := K0.to bl
  have b_2 := below_to bV bl
  clear K0 bV
  clear bl
  go_wp2_with fail
  refine (HS.out _).mono ?_
  rintro e v2 ⟨rfl, bl⟩
  have K_3 := K_1.to bl
  have b_4 := below_to b_2 bl
  clear K_1 b_2
  clear bl
  have q0 := K_3.cell0 (i := 0) (v := .int .i64 a) rfl
  have q1 := K_3.cell0 (i := 1) (v := .int .i64 b) rfl
  have q2 := K_3.cell0 (i := 2) (v := .int .i64 c) rfl
  have q3 := K_3.cell0 (i := 3) (v := .int .i64 d) rfl
  go_wp2_with fail
  clear q0 q1 q2 q3
  refine (to_span a b c d _).mono ?_
  rintro e v3 ⟨rfl, bl⟩
  have K_5 := K_3.to bl
  have b_6 := below_to b_4 bl
  clear K_3 b_4
  clear bl
  go_wp2_with fail
  refine (HI.out _).mono ?_
  rintro e v4 ⟨rfl, bl⟩
  have K_7 := K_5.to bl
  have b_8 := below_to b_6 bl
  clear K_5 b_6
  clear bl
  go_wp2
  go_ret
  exact ⟨rfl, b_8⟩
set_option maxHeartbeats 3200000 in
theorem law_isp (a b c d n m : Int) (wa : (Lit.int .i64 a).wf = true) (wb : (Lit.int .i64 b).wf = true) (wc : (Lit.int .i64 c).wf = true) (wd : (Lit.int .i64 d).wf = true) (wn : (Lit.int .i64 n).wf = true) (wm : (Lit.int .i64 m).wf = true) (w : World) :
    Calls Try.prog 4 #[.agg #[.int .i64 a, .int .i64 b, .int .i64 c, .int .i64 d], .agg #[.int .i64 n, .int .i64 m]] w fun e w' => e = .returned (.bool true) ∧ Below w.heap.size w w' := by
  have ha : I64 a := bounds_i64 wa
  have hb : I64 b := bounds_i64 wb
  have hc : I64 c := bounds_i64 wc
  have hd : I64 d := bounds_i64 wd
  have hn : I64 n := bounds_i64 wn
  have hm : I64 m := bounds_i64 wm
  clear wa wb wc wd wn wm
  have bV := below_bx2 (below_one w (.cells #[.int .i64 a, .int .i64 b, .int .i64 c, .int .i64 d] 25)) (.cells #[.int .i64 n, .int .i64 m] 23)
  have K0 := (blk_new w #[.int .i64 a, .int .i64 b, .int .i64 c, .int .i64 d] 25 (b := w.heap.size) (by simp)).to (below_one _ (.cells #[.int .i64 n, .int .i64 m] 23))
  have K1 := blk_new (w.alloc (.cells #[.int .i64 a, .int .i64 b, .int .i64 c, .int .i64 d] 25)) #[.int .i64 n, .int .i64 m] 23 (b := w.heap.size + 1) (by simp)
  have HS := Lib.hid (fun V => spec_isp a b c d n m V ha hb hc hd hn hm)
  have HI := Lib.hid (fun V => impl_isp a b c d n m V ha hb hc hd hn hm)
  generalize ispB a b c d n m = R at *
  clear ha hb hc hd hn hm
  go_enter Try.func4, Try.ntmps4
  go_upto_region 1 with fail
  generalize ((w.alloc (.cells #[.int .i64 a, .int .i64 b, .int .i64 c, .int .i64 d] 25)).alloc (.cells #[.int .i64 n, .int .i64 m] 23)) = V at *
  go_cut [5] from 7 to 11 (fun s5 wx => s5 = .bool R ∧ Below V.heap.size V wx)
  case first =>
    have p0 := K0.cell0 (i := 0) (v := .int .i64 a) rfl
    have p1 := K0.cell0 (i := 1) (v := .int .i64 b) rfl
    have p2 := K0.cell0 (i := 2) (v := .int .i64 c) rfl
    have p3 := K0.cell0 (i := 3) (v := .int .i64 d) rfl
    have q0 := K1.cell0 (i := 0) (v := .int .i64 n) rfl
    have q1 := K1.cell0 (i := 1) (v := .int .i64 m) rfl
    go_region_held3 (fun w' => w'.cell? ⟨w.heap.size, 0, none⟩ = some (.int .i64 a) ∧ w'.cell? ⟨w.heap.size, 1, none⟩ = some (.int .i64 b) ∧ w'.cell? ⟨w.heap.size, 2, none⟩ = some (.int .i64 c) ∧ w'.cell? ⟨w.heap.size, 3, none⟩ = some (.int .i64 d) ∧ w'.cell? ⟨w.heap.size + 1, 0, none⟩ = some (.int .i64 n) ∧ w'.cell? ⟨w.heap.size + 1, 1, none⟩ = some (.int .i64 m))
      ((refine pin_keep K0 K1 ?_; repeat (first | exact Below.refl _ _ | refine Below.setCell ?_ (by first | (simp; done) | (simp; omega)) _ | refine below_bx2 ?_ _ | refine below_drw ?_ | refine below_to ?_ (by assumption))))
      (first | (go_at_call 11; (with_reducible refine (to_span a b c d _).mono ?_); rintro e wP ⟨rfl, blP⟩) | (go_at_call 14; (with_reducible refine (to_ratio _ _ _).mono ?_); rintro e wQ ⟨rfl, blQ⟩) | (go_at_call 13; (with_reducible refine (HS.out _).mono ?_); rintro e w3 ⟨rfl, bl3⟩))
    all_goals
      go_wp2_with fail
      go_meet
      refine ⟨rfl, ?_⟩
      repeat (first | exact Below.refl _ _ | refine Below.setCell ?_ (by first | (simp; done) | (simp; omega)) _ | refine below_bx2 ?_ _ | refine below_drw ?_ | refine below_to ?_ (by assumption))
  case rest =>
    obtain ⟨rfl, hbx⟩ := hcut
    have L0 := K0.to hbx
    have L1 := K1.to hbx
    have b1 := below_to bV hbx
    clear K0 K1 bV hbx
    go_upto_region 2 with fail
    go_cut [6] from 12 to 16 (fun s5 wx => s5 = .bool R ∧ Below wc.heap.size wc wx)
    case first =>
      have p0 := L0.cell0 (i := 0) (v := .int .i64 a) rfl
      have p1 := L0.cell0 (i := 1) (v := .int .i64 b) rfl
      have p2 := L0.cell0 (i := 2) (v := .int .i64 c) rfl
      have p3 := L0.cell0 (i := 3) (v := .int .i64 d) rfl
      have q0 := L1.cell0 (i := 0) (v := .int .i64 n) rfl
      have q1 := L1.cell0 (i := 1) (v := .int .i64 m) rfl
      go_region_held3 (fun w' => w'.cell? ⟨w.heap.size, 0, none⟩ = some (.int .i64 a) ∧ w'.cell? ⟨w.heap.size, 1, none⟩ = some (.int .i64 b) ∧ w'.cell? ⟨w.heap.size, 2, none⟩ = some (.int .i64 c) ∧ w'.cell? ⟨w.heap.size, 3, none⟩ = some (.int .i64 d) ∧ w'.cell? ⟨w.heap.size + 1, 0, none⟩ = some (.int .i64 n) ∧ w'.cell? ⟨w.heap.size + 1, 1, none⟩ = some (.int .i64 m))
        ((refine pin_keep L0 L1 ?_; repeat (first | exact Below.refl _ _ | refine Below.setCell ?_ (by first | (simp; done) | (simp; omega)) _ | refine below_bx2 ?_ _ | refine below_drw ?_ | refine below_to ?_ (by assumption))))
        (first | (go_at_call 11; (with_reducible refine (to_span a b c d _).mono ?_); rintro e wP ⟨rfl, blP⟩) | (go_at_call 14; (with_reducible refine (to_ratio _ _ _).mono ?_); rintro e wQ ⟨rfl, blQ⟩) | (go_at_call 15; (with_reducible refine (HI.out _).mono ?_); rintro e w3 ⟨rfl, bl3⟩))
      all_goals
        go_wp2_with fail
        go_meet
        refine ⟨rfl, ?_⟩
        repeat (first | exact Below.refl _ _ | refine Below.setCell ?_ (by first | (simp; done) | (simp; omega)) _ | refine below_bx2 ?_ _ | refine below_drw ?_ | refine below_to ?_ (by assumption))
    case rest =>
      obtain ⟨rfl, hbx2⟩ := hcut
      have hfin := below_to b1 hbx2
      go_wp2_with fail
      go_ret
      exact ⟨rfl, hfin⟩
end Go.Proofs.Ytibkmhmeoelpdaa
