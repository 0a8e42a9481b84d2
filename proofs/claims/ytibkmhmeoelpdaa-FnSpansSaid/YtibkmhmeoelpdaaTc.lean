/- PickInput of the program; the walks of the laws of MeetSpans, PickInput, WholeInputs. -/
import Derived.Test.YtibkmhmeoelpdaaTa
import Derived.Test.YtibkmhmeoelpdaaTb
namespace Go.Proofs.Ytibkmhmeoelpdaa
open Go.RowKit
open Geo (H3)

theorem pin_put4 {V X : World} {B E : Nat} {a0 a1 a2 a3 u v : Value} {T : TypeId} (n1 : E ≠ B) (h : Blk V B #[a0, a1, a2, a3] T) (hb : Below V.heap.size V X) :
    ((X.setCell ⟨E, 0, none⟩ u).setCell ⟨E, 1, none⟩ v).cell? ⟨B, 0, none⟩ = some a0 ∧ ((X.setCell ⟨E, 0, none⟩ u).setCell ⟨E, 1, none⟩ v).cell? ⟨B, 1, none⟩ = some a1 ∧ ((X.setCell ⟨E, 0, none⟩ u).setCell ⟨E, 1, none⟩ v).cell? ⟨B, 2, none⟩ = some a2 ∧ ((X.setCell ⟨E, 0, none⟩ u).setCell ⟨E, 1, none⟩ v).cell? ⟨B, 3, none⟩ = some a3 := by
  have h1 := blk_far (blk_far (h.to hb) (p := ⟨E, 0, none⟩) u n1) (p := ⟨E, 1, none⟩) v n1
  exact ⟨h1.cell0 rfl, h1.cell0 rfl, h1.cell0 rfl, h1.cell0 rfl⟩
set_option maxHeartbeats 3200000 in
theorem impl_pin (a b c d wish : Int) (w : World) (ha : I64 a) (hb : I64 b) (hc : I64 c) (hd : I64 d) :
    Calls Try.prog 17 #[.agg #[.int .i64 a, .int .i64 b, .int .i64 c, .int .i64 d], .int .i64 wish] w fun e w' => e = .returned (.agg #[.int .i64 (pinP a b c d wish).1, .int .i64 (pinP a b c d wish).2]) ∧ Below w.heap.size w w' := by
  have bV := below_bx2 (below_one w (.cells #[.int .i64 a, .int .i64 b, .int .i64 c, .int .i64 d] 29)) (.cells #[.int .i64 0, .int .i64 0] 27)
  have K0 := (blk_new w #[.int .i64 a, .int .i64 b, .int .i64 c, .int .i64 d] 29 (b := w.heap.size) (by simp)).to (below_one _ (.cells #[.int .i64 0, .int .i64 0] 27))
  have K1 := blk_new (w.alloc (.cells #[.int .i64 a, .int .i64 b, .int .i64 c, .int .i64 d] 29)) #[.int .i64 0, .int .i64 0] 27 (b := w.heap.size + 1) (by simp)
  have H1 := Lib.hid (fun V => impl_spn a b c d V ha hb hc hd)
  obtain ⟨n, hn⟩ : ∃ n, n = clpI wish (-1000) 1000 := ⟨_, rfl⟩
  have hn0 : min (max wish (-1000)) 1000 = n := by rw [hn]; unfold clpI; omega
  have hn1 : -1000 ≤ n ∧ n ≤ 1000 := by rw [hn]; unfold clpI; omega
  have HN0 := Lib.hid (fun h => pin_0 (a := a) (b := b) (c := c) (d := d) (wish := wish) h)
  have HNA := Lib.hid (fun h l => pin_a (a := a) (b := b) (c := c) (d := d) (wish := wish) (n := n) h hn l)
  have HNB := Lib.hid (fun h l => pin_b (a := a) (b := b) (c := c) (d := d) (wish := wish) (n := n) h hn l)
  have HO := Lib.hid (fun V => impl_ofA n 1 V (by omega) (by omega) (by omega) (by omega))
  rw [(one_of (n := n) (by omega)).1, (one_of (n := n) (by omega)).2.1] at HO
  have H3 := Lib.hid (fun V => impl_ceilR a b V ha.1 ha.2 hb.1 hb.2)
  have H4 := Lib.hid (fun V => impl_floorR c d V hc.1 hc.2 hd.1 hd.2)
  have H5 := Lib.hid (fun V => impl_max n 1 a b V (by omega) (by omega) (by omega) (by omega) ha.1 ha.2 hb.1 hb.2)
  have m64 : I64 (maxP n 1 a b).1 ∧ I64 (maxP n 1 a b).2 := max_64 (show I64 n from ⟨by omega, by omega⟩) (show I64 1 from ⟨by omega, by omega⟩) ha hb
  have H6 := Lib.hid (fun V => impl_min (maxP n 1 a b).1 (maxP n 1 a b).2 c d V m64.1.1 m64.1.2 m64.2.1 m64.2.2 hc.1 hc.2 hd.1 hd.2)
  clear ha hb hc hd m64 hn
  have c0 := K0.cell0 (i := 0) (v := .int .i64 a) rfl
  have c1 := K0.cell0 (i := 1) (v := .int .i64 b) rfl
  have c2 := K0.cell0 (i := 2) (v := .int .i64 c) rfl
  have c3 := K0.cell0 (i := 3) (v := .int .i64 d) rfl
  go_enter Try.func17, Try.ntmps17
  go_wp2_with fail
  clear c0 c1 c2 c3
  generalize ((w.alloc (.cells #[.int .i64 a, .int .i64 b, .int .i64 c, .int .i64 d] 29)).alloc (.cells #[.int .i64 0, .int .i64 0] 27)) = V at *
  refine (H1.out _).mono ?_
  rintro e v1 ⟨rfl, bl⟩
  have K_1 := K0.to bl
  have R_2 := K1.to bl
  have b_3 := below_to bV bl
  clear K0 K1 bV
  clear bl
  cases h1 : spnB a b c d with
  | false =>
    have HN := Lib.hid (HN0.out h1)
    have z0 := R_2.cell0 (i := 0) (v := .int .i64 0) rfl
    have z1 := R_2.cell0 (i := 1) (v := .int .i64 0) rfl
    have f0 := R_2.free 0
    have f1 := R_2.free 1
    go_wp2_with fail
    exact bodyPost_ret (v := .agg #[.int .i64 0, .int .i64 0]) (by simp [results, Try.results17, go_sem, z0, z1]) rfl ⟨by rw [HN.out], ((b_3.setCell (p := ⟨w.heap.size + 1, 0, none⟩) (Nat.le_add_right _ _) (.int .i64 0)).setCell (p := ⟨w.heap.size + 1, 1, none⟩) (Nat.le_add_right _ _) (.int .i64 0))⟩
  | true =>
    have HA := Lib.hid (HNA.out h1)
    have HB := Lib.hid (HNB.out h1)
    have ic := cei_in (spn_iff.1 h1).1
    have jf := flo_in (spn_iff.1 h1).2.1
    clear h1 HNA HNB HN0 H1
    generalize ceiR a b = lo at *
    generalize floR c d = hi at *
    have c0 := K_1.cell0 (i := 0) (v := .int .i64 a) rfl
    have c1 := K_1.cell0 (i := 1) (v := .int .i64 b) rfl
    have c2 := K_1.cell0 (i := 2) (v := .int .i64 c) rfl
    have c3 := K_1.cell0 (i := 3) (v := .int .i64 d) rfl
    go_upto_region 4 with fail
    try rw [hn0]
    go_cut [5, 6] from 14 to 19 (fun s5 s6 wx => s5 = .int .i64 lo ∧ s6 = .int .i64 hi ∧ Below v1.heap.size v1 wx)
    case first =>
      go_region_held3 (fun w' => w'.cell? ⟨w.heap.size, 0, none⟩ = some (.int .i64 a) ∧ w'.cell? ⟨w.heap.size, 1, none⟩ = some (.int .i64 b) ∧ w'.cell? ⟨w.heap.size, 2, none⟩ = some (.int .i64 c) ∧ w'.cell? ⟨w.heap.size, 3, none⟩ = some (.int .i64 d))
        ((refine keep4 K_1 ?_; repeat (first | (with_reducible exact Below.refl _ _) | refine below_bx2 ?_ _ | refine below_drw ?_ | refine below_to ?_ (by assumption))))
        (first | (go_at_call 45; (with_reducible refine (H4.out _).mono ?_); rintro e wA ⟨rfl, blA⟩) | (go_at_call 44; (with_reducible refine (H3.out _).mono ?_); rintro e wB ⟨rfl, blB⟩))
      all_goals
        go_wp2_with fail
        go_meet
        refine ⟨rfl, rfl, ?_⟩
        repeat (first | (with_reducible exact Below.refl _ _) | refine below_bx2 ?_ _ | refine below_drw ?_ | refine below_to ?_ (by assumption))
    case rest =>
      obtain ⟨rfl, rfl, hbx⟩ := hcut
      clear c0 c1 c2 c3
      have K_4 := K_1.to hbx
      have R_5 := R_2.to hbx
      have b_6 := below_to b_3 hbx
      clear K_1 R_2 b_3
      clear hbx
      by_cases hl : hi < lo
      · have HN := Lib.hid (HA.out hl)
        generalize (maxP n 1 a b).1 = x1 at *
        generalize (maxP n 1 a b).2 = x2 at *
        generalize minP x1 x2 c d = y at *
        obtain ⟨y1, y2⟩ := y
        simp only at H6 HN
        have c0 := K_4.cell0 (i := 0) (v := .int .i64 a) rfl
        have c1 := K_4.cell0 (i := 1) (v := .int .i64 b) rfl
        have c2 := K_4.cell0 (i := 2) (v := .int .i64 c) rfl
        have c3 := K_4.cell0 (i := 3) (v := .int .i64 d) rfl
        go_upto_region 6 with fail
        have n1 : w.heap.size + 1 ≠ w.heap.size := by omega
        go_region_held3 (fun w' => w'.cell? ⟨w.heap.size, 0, none⟩ = some (.int .i64 a) ∧ w'.cell? ⟨w.heap.size, 1, none⟩ = some (.int .i64 b) ∧ w'.cell? ⟨w.heap.size, 2, none⟩ = some (.int .i64 c) ∧ w'.cell? ⟨w.heap.size, 3, none⟩ = some (.int .i64 d))
          (first | (with_reducible refine pin_put4 n1 K_4 ?_; repeat (first | (with_reducible exact Below.refl _ _) | refine below_bx2 ?_ _ | refine below_drw ?_ | refine below_to ?_ (by assumption))) | (with_reducible refine keep4 K_4 ?_; repeat (first | (with_reducible exact Below.refl _ _) | refine below_bx2 ?_ _ | refine below_drw ?_ | refine below_to ?_ (by assumption))))
          (first | (go_at_call 33; (with_reducible refine (HO.out _).mono ?_); rintro e wO ⟨rfl, blO⟩) | (go_at_call 47; (with_reducible refine (H5.out _).mono ?_); rintro e wA ⟨rfl, blA⟩) | (go_at_call 46; (with_reducible refine (H6.out _).mono ?_); rintro e wB ⟨rfl, blB⟩; have E1 : Blk wB _ _ _ := R_5.to (by repeat (first | (with_reducible exact Below.refl _ _) | refine below_bx2 ?_ _ | refine below_drw ?_ | refine below_to ?_ (by assumption))); have z0 := E1.cell0 (i := 0) (v := .int .i64 0) rfl; have z1 := E1.cell0 (i := 1) (v := .int .i64 0) rfl; have f0 := E1.free 0; have f1 := E1.free 1))
        all_goals
          have b7 : Below w.heap.size w wB := below_to b_6 (by repeat (first | (with_reducible exact Below.refl _ _) | refine below_bx2 ?_ _ | refine below_drw ?_ | refine below_to ?_ (by assumption)))
          go_wp2_with fail
          exact bodyPost_ret (v := .agg #[.int .i64 y1, .int .i64 y2]) (by simp [results, Try.results17, go_sem, z0, z1]) rfl ⟨by rw [HN.out], ((b7.setCell (p := ⟨w.heap.size + 1, 0, none⟩) (Nat.le_add_right _ _) (.int .i64 y1)).setCell (p := ⟨w.heap.size + 1, 1, none⟩) (Nat.le_add_right _ _) (.int .i64 y2))⟩
      · have HN := Lib.hid (HB.out (by omega))
        obtain ⟨x, hx⟩ : ∃ x, min (max n lo) hi = x := ⟨_, rfl⟩
        have hx1 : -1000000000000000000 ≤ x ∧ x ≤ 1000000000000000000 := by omega
        rw [hx] at HN
        have HX := Lib.hid (fun V => impl_ofA x 1 V (by omega) (by omega) (by omega) (by omega))
        rw [(one_of (n := x) (by omega)).1, (one_of (n := x) (by omega)).2.1] at HX
        clear hx1
        go_wp2_with fail
        try rw [hx]
        refine (HX.out _).mono ?_
        rintro e v2 ⟨rfl, bl⟩
        have K_7 := K_4.to bl
        have R_8 := R_5.to bl
        have b_9 := below_to b_6 bl
        clear K_4 R_5 b_6
        clear bl
        have z0 := R_8.cell0 (i := 0) (v := .int .i64 0) rfl
        have z1 := R_8.cell0 (i := 1) (v := .int .i64 0) rfl
        have f0 := R_8.free 0
        have f1 := R_8.free 1
        go_wp2_with fail
        exact bodyPost_ret (v := .agg #[.int .i64 x, .int .i64 1]) (by simp [results, Try.results17, go_sem, z0, z1]) rfl ⟨by rw [HN.out], ((b_9.setCell (p := ⟨w.heap.size + 1, 0, none⟩) (Nat.le_add_right _ _) (.int .i64 x)).setCell (p := ⟨w.heap.size + 1, 1, none⟩) (Nat.le_add_right _ _) (.int .i64 1))⟩
set_option maxHeartbeats 3200000 in
theorem law_whi (a b c d : Int) (wa : (Lit.int .i64 a).wf = true) (wb : (Lit.int .i64 b).wf = true) (wc : (Lit.int .i64 c).wf = true) (wd : (Lit.int .i64 d).wf = true) (w : World) :
    Calls Try.prog 7 #[.agg #[.int .i64 a, .int .i64 b, .int .i64 c, .int .i64 d]] w fun e w' => e = .returned (.bool true) ∧ Below w.heap.size w w' := by
  have ha : I64 a := bounds_i64 wa
  have hb : I64 b := bounds_i64 wb
  have hc : I64 c := bounds_i64 wc
  have hd : I64 d := bounds_i64 wd
  clear wa wb wc wd
  have bV := below_one w (.cells #[.int .i64 a, .int .i64 b, .int .i64 c, .int .i64 d] 25)
  have K0 := blk_new w #[.int .i64 a, .int .i64 b, .int .i64 c, .int .i64 d] 25 (b := w.heap.size) (by simp)
  have HS := Lib.hid (fun V => spec_who a b c d V ha hb hc hd)
  have HI := Lib.hid (fun V => impl_whi a b c d V ha hb hc hd)
  generalize whoP a b c d = r at *
  clear ha hb hc hd
  have c0 := K0.cell0 (i := 0) (v := .int .i64 a) rfl
  have c1 := K0.cell0 (i := 1) (v := .int .i64 b) rfl
  have c2 := K0.cell0 (i := 2) (v := .int .i64 c) rfl
  have c3 := K0.cell0 (i := 3) (v := .int .i64 d) rfl
  go_enter Try.func7, Try.ntmps7
  go_wp2_with fail
  clear c0 c1 c2 c3
  generalize (w.alloc (.cells #[.int .i64 a, .int .i64 b, .int .i64 c, .int .i64 d] 25)) = V at *
  refine (to_span a b c d _).mono ?_
  rintro e v1 ⟨rfl, bl⟩
  have K_1 := K0.to bl
  have b_2 := below_to bV bl
  clear K0 bV
  clear bl
  go_wp2_with fail
  refine (HS.out _).mono ?_
  rintro e v2 ⟨rfl, bl⟩
  have K_3 := K_1.to bl
  have b_4 := below_to b_2 bl
  clear K_1 b_2
  clear bl
  have q0 := K_3.cell0 (i := 0) (v := .int .i64 a) rfl
  have q1 := K_3.cell0 (i := 1) (v := .int .i64 b) rfl
  have q2 := K_3.cell0 (i := 2) (v := .int .i64 c) rfl
  have q3 := K_3.cell0 (i := 3) (v := .int .i64 d) rfl
  go_wp2_with fail
  clear q0 q1 q2 q3
  refine (to_span a b c d _).mono ?_
  rintro e v3 ⟨rfl, bl⟩
  have K_5 := K_3.to bl
  have b_6 := below_to b_4 bl
  clear K_3 b_4
  clear bl
  go_wp2_with fail
  refine (HI.out _).mono ?_
  rintro e v4 ⟨rfl, bl⟩
  have K_7 := K_5.to bl
  have b_8 := below_to b_6 bl
  clear K_5 b_6
  clear bl
  go_wp2
  go_ret
  exact ⟨rfl, b_8⟩
set_option maxHeartbeats 3200000 in
theorem law_pin (a b c d wish : Int) (wa : (Lit.int .i64 a).wf = true) (wb : (Lit.int .i64 b).wf = true) (wc : (Lit.int .i64 c).wf = true) (wd : (Lit.int .i64 d).wf = true) (wwish : (Lit.int .i64 wish).wf = true) (w : World) :
    Calls Try.prog 5 #[.agg #[.int .i64 a, .int .i64 b, .int .i64 c, .int .i64 d], .int .i64 wish] w fun e w' => e = .returned (.bool true) ∧ Below w.heap.size w w' := by
  have ha : I64 a := bounds_i64 wa
  have hb : I64 b := bounds_i64 wb
  have hc : I64 c := bounds_i64 wc
  have hd : I64 d := bounds_i64 wd
  have hwish : I64 wish := bounds_i64 wwish
  clear wa wb wc wd wwish
  have bV := below_one w (.cells #[.int .i64 a, .int .i64 b, .int .i64 c, .int .i64 d] 25)
  have K0 := blk_new w #[.int .i64 a, .int .i64 b, .int .i64 c, .int .i64 d] 25 (b := w.heap.size) (by simp)
  have HS := Lib.hid (fun V => spec_pin a b c d wish V ha hb hc hd)
  have HI := Lib.hid (fun V => impl_pin a b c d wish V ha hb hc hd)
  generalize (pinP a b c d wish).1 = N at *
  generalize (pinP a b c d wish).2 = D at *
  clear ha hb hc hd hwish
  have c0 := K0.cell0 (i := 0) (v := .int .i64 a) rfl
  have c1 := K0.cell0 (i := 1) (v := .int .i64 b) rfl
  have c2 := K0.cell0 (i := 2) (v := .int .i64 c) rfl
  have c3 := K0.cell0 (i := 3) (v := .int .i64 d) rfl
  go_enter Try.func5, Try.ntmps5
  go_wp2_with fail
  clear c0 c1 c2 c3
  generalize (w.alloc (.cells #[.int .i64 a, .int .i64 b, .int .i64 c, .int .i64 d] 25)) = V at *
  refine (to_span a b c d _).mono ?_
  rintro e v1 ⟨rfl, bl⟩
  have K_1 := K0.to bl
  have b_2 := below_to bV bl
  clear K0 bV
  clear bl
  go_wp2_with fail
  refine (HS.out _).mono ?_
  rintro e v2 ⟨rfl, bl⟩
  have K_3 := K_1.to bl
  have b_4 := below_to b_2 bl
  clear K_1 b_2
  clear bl
  have bN := below_one v2 (.cells #[.int .i64 N, .int .i64 D] 27)
  have R0 := blk_new v2 #[.int .i64 N, .int .i64 D] 27 rfl
  have K_5 := K_3.to bN
  have b_6 := below_to b_4 bN
  clear K_3 b_4
  clear bN
  have q0 := K_5.cell0 (i := 0) (v := .int .i64 a) rfl
  have q1 := K_5.cell0 (i := 1) (v := .int .i64 b) rfl
  have q2 := K_5.cell0 (i := 2) (v := .int .i64 c) rfl
  have q3 := K_5.cell0 (i := 3) (v := .int .i64 d) rfl
  go_wp2_with fail
  clear q0 q1 q2 q3
  generalize v2.alloc (.cells #[.int .i64 N, .int .i64 D] 27) = X at *
  obtain ⟨rb, hbk⟩ : ∃ b, v2.heap.size = b := ⟨_, rfl⟩
  rw [hbk] at R0 ⊢
  clear hbk
  refine (to_span a b c d _).mono ?_
  rintro e v3 ⟨rfl, bl⟩
  have K_7 := K_5.to bl
  have b_8 := below_to b_6 bl
  have R_9 := R0.to bl
  clear K_5 b_6 R0
  clear bl
  go_wp2_with fail
  refine (HI.out _).mono ?_
  rintro e v4 ⟨rfl, bl⟩
  have K_10 := K_7.to bl
  have b_11 := below_to b_8 bl
  have R_12 := R_9.to bl
  clear K_7 b_8 R_9
  clear bl
  have bN := below_one v4 (.cells #[.int .i64 N, .int .i64 D] 27)
  have S0 := blk_new v4 #[.int .i64 N, .int .i64 D] 27 rfl
  have K_13 := K_10.to bN
  have b_14 := below_to b_11 bN
  have R_15 := R_12.to bN
  clear K_10 b_11 R_12
  clear bN
  have q0 := R_15.cell0 (i := 0) (v := .int .i64 N) rfl
  have q1 := R_15.cell0 (i := 1) (v := .int .i64 D) rfl
  have q2 := S0.cell0 (i := 0) (v := .int .i64 N) rfl
  have q3 := S0.cell0 (i := 1) (v := .int .i64 D) rfl
  go_wp2_with fail
  clear q0 q1 q2 q3
  refine (eq_frac N D _).mono ?_
  rintro e v5 ⟨rfl, bl⟩
  have K_16 := K_13.to bl
  have b_17 := below_to b_14 bl
  have R_18 := R_15.to bl
  have S_19 := S0.to bl
  clear K_13 b_14 R_15 S0
  clear bl
  go_wp2
  go_ret
  exact ⟨rfl, b_17⟩
set_option maxHeartbeats 3200000 in
theorem law_msp (a b c d p q r s : Int) (wa : (Lit.int .i64 a).wf = true) (wb : (Lit.int .i64 b).wf = true) (wc : (Lit.int .i64 c).wf = true) (wd : (Lit.int .i64 d).wf = true) (wp : (Lit.int .i64 p).wf = true) (wq : (Lit.int .i64 q).wf = true) (wr : (Lit.int .i64 r).wf = true) (ws : (Lit.int .i64 s).wf = true) (w : World) :
    Calls Try.prog 6 #[.agg #[.int .i64 a, .int .i64 b, .int .i64 c, .int .i64 d], .agg #[.int .i64 p, .int .i64 q, .int .i64 r, .int .i64 s]] w fun e w' => e = .returned (.bool true) ∧ Below w.heap.size w w' := by
  have ha : I64 a := bounds_i64 wa
  have hb : I64 b := bounds_i64 wb
  have hc : I64 c := bounds_i64 wc
  have hd : I64 d := bounds_i64 wd
  have hp : I64 p := bounds_i64 wp
  have hq : I64 q := bounds_i64 wq
  have hr : I64 r := bounds_i64 wr
  have hs : I64 s := bounds_i64 ws
  clear wa wb wc wd wp wq wr ws
  have bV := below_bx2 (below_one w (.cells #[.int .i64 a, .int .i64 b, .int .i64 c, .int .i64 d] 25)) (.cells #[.int .i64 p, .int .i64 q, .int .i64 r, .int .i64 s] 25)
  have K0 := (blk_new w #[.int .i64 a, .int .i64 b, .int .i64 c, .int .i64 d] 25 (b := w.heap.size) (by simp)).to (below_one _ (.cells #[.int .i64 p, .int .i64 q, .int .i64 r, .int .i64 s] 25))
  have K1 := blk_new (w.alloc (.cells #[.int .i64 a, .int .i64 b, .int .i64 c, .int .i64 d] 25)) #[.int .i64 p, .int .i64 q, .int .i64 r, .int .i64 s] 25 (b := w.heap.size + 1) (by simp)
  have HS := Lib.hid (fun V => spec_msp a b c d p q r s V ha hb hc hd hp hq hr hs)
  have HI := Lib.hid (fun V => impl_msp a b c d p q r s V ha hb hc hd hp hq hr hs)
  generalize (mspL a b c d p q r s).1 = n1 at *
  generalize (mspL a b c d p q r s).2 = n2 at *
  generalize (mspH a b c d p q r s).1 = n3 at *
  generalize (mspH a b c d p q r s).2 = n4 at *
  generalize mspB a b c d p q r s = R at *
  clear ha hb hc hd hp hq hr hs
  go_enter Try.func6, Try.ntmps6
  go_upto_region 1 with fail
  generalize ((w.alloc (.cells #[.int .i64 a, .int .i64 b, .int .i64 c, .int .i64 d] 25)).alloc (.cells #[.int .i64 p, .int .i64 q, .int .i64 r, .int .i64 s] 25)) = V at *
  go_cut [5, 6] from 10 to 16 (fun s5 s6 wx => (∃ g, s5 = .pointer (some ⟨g, 0, none⟩) ∧ V.heap.size ≤ g ∧ Blk wx g #[.int .i64 n1, .int .i64 n2, .int .i64 n3, .int .i64 n4] 29 ∧ Below V.heap.size V wx) ∧ s6 = .bool R)
  case first =>
    have p0 := K0.cell0 (i := 0) (v := .int .i64 a) rfl
    have p1 := K0.cell0 (i := 1) (v := .int .i64 b) rfl
    have p2 := K0.cell0 (i := 2) (v := .int .i64 c) rfl
    have p3 := K0.cell0 (i := 3) (v := .int .i64 d) rfl
    have q0 := K1.cell0 (i := 0) (v := .int .i64 p) rfl
    have q1 := K1.cell0 (i := 1) (v := .int .i64 q) rfl
    have q2 := K1.cell0 (i := 2) (v := .int .i64 r) rfl
    have q3 := K1.cell0 (i := 3) (v := .int .i64 s) rfl
    go_region_held3 (fun w' => w'.cell? ⟨w.heap.size, 0, none⟩ = some (.int .i64 a) ∧ w'.cell? ⟨w.heap.size, 1, none⟩ = some (.int .i64 b) ∧ w'.cell? ⟨w.heap.size, 2, none⟩ = some (.int .i64 c) ∧ w'.cell? ⟨w.heap.size, 3, none⟩ = some (.int .i64 d) ∧ w'.cell? ⟨w.heap.size + 1, 0, none⟩ = some (.int .i64 p) ∧ w'.cell? ⟨w.heap.size + 1, 1, none⟩ = some (.int .i64 q) ∧ w'.cell? ⟨w.heap.size + 1, 2, none⟩ = some (.int .i64 r) ∧ w'.cell? ⟨w.heap.size + 1, 3, none⟩ = some (.int .i64 s))
      ((refine keep8 K0 K1 ?_; repeat (first | exact Below.refl _ _ | refine Below.setCell ?_ (by first | (simp; done) | (simp; omega)) _ | refine below_bx2 ?_ _ | refine below_drw ?_ | refine below_to ?_ (by assumption))))
      (first | (go_at_call 11; (with_reducible refine (to_span a b c d _).mono ?_); rintro e wP ⟨rfl, blP⟩; obtain ⟨hcP, hfP⟩ := bcl3 blP; have hsP := blP.size; (try simp at hsP)) | (go_at_call 11; (with_reducible refine (to_span p q r s _).mono ?_); rintro e wQ ⟨rfl, blQ⟩; obtain ⟨hcQ, hfQ⟩ := bcl3 blQ; have hsQ := blQ.size; (try simp at hsQ)) | (go_at_call 19; (with_reducible refine (HS.out _).mono ?_); rintro e w3 ⟨rfl, bl3⟩; obtain ⟨hc3, hf3⟩ := bcl3 bl3; have hs3 := bl3.size; (try simp at hs3); (first | (with_reducible have hx := bcl3 (below_to (below_to blP blQ) bl3)) | (with_reducible have hx := bcl3 (below_to (below_to blQ blP) bl3)) | (with_reducible have hx := bcl3 (below_to blQ bl3)) | (with_reducible have hx := bcl3 (below_to blP bl3)) | skip); (try obtain ⟨hxc, hxf⟩ := hx)))
    all_goals
      go_wp2_with fail
      go_meet
      refine ⟨⟨_, rfl, ?_, ?_, ?_⟩, rfl⟩
      · first | exact Nat.le_refl _ | omega | (simp; omega)
      · first
        | (unfold Blk; with_reducible exact heap_alloc_new _ _)
        | (unfold Blk; with_reducible refine blk_s4 (a0 := .int .i64 0) (a1 := .int .i64 0) (a2 := .int .i64 0) (a3 := .int .i64 0) ?_ _ _ _ _
           apply at_new3 (Z := .cells #[.int .i64 0, .int .i64 0, .int .i64 0, .int .i64 0] 29)
           · repeat (first | exact Below.refl _ _ | refine below_bx2 ?_ _ | refine below_drw ?_ | refine below_to ?_ (by assumption))
           · first | rfl | (simp; done))
      · repeat (first | exact Below.refl _ _ | refine Below.setCell ?_ (by first | (simp; done) | (simp; omega)) _ | refine below_bx2 ?_ _ | refine below_drw ?_ | refine below_to ?_ (by assumption))
  case rest =>
    obtain ⟨⟨g, rfl, hg, hG, hbx⟩, rfl⟩ := hcut
    have KG : Blk wc g #[.int .i64 n1, .int .i64 n2, .int .i64 n3, .int .i64 n4] 29 := hG
    have L0 := K0.to hbx
    have L1 := K1.to hbx
    have b1 := below_to bV hbx
    clear K0 K1 bV hbx hG
    go_upto_region 2 with fail
    go_cut [7, 8] from 18 to 24 (fun s5 s6 wx => (∃ g, s5 = .pointer (some ⟨g, 0, none⟩) ∧ wc.heap.size ≤ g ∧ Blk wx g #[.int .i64 n1, .int .i64 n2, .int .i64 n3, .int .i64 n4] 29 ∧ Below wc.heap.size wc wx) ∧ s6 = .bool R)
    case first =>
      have p0 := L0.cell0 (i := 0) (v := .int .i64 a) rfl
      have p1 := L0.cell0 (i := 1) (v := .int .i64 b) rfl
      have p2 := L0.cell0 (i := 2) (v := .int .i64 c) rfl
      have p3 := L0.cell0 (i := 3) (v := .int .i64 d) rfl
      have q0 := L1.cell0 (i := 0) (v := .int .i64 p) rfl
      have q1 := L1.cell0 (i := 1) (v := .int .i64 q) rfl
      have q2 := L1.cell0 (i := 2) (v := .int .i64 r) rfl
      have q3 := L1.cell0 (i := 3) (v := .int .i64 s) rfl
      go_region_held3 (fun w' => w'.cell? ⟨w.heap.size, 0, none⟩ = some (.int .i64 a) ∧ w'.cell? ⟨w.heap.size, 1, none⟩ = some (.int .i64 b) ∧ w'.cell? ⟨w.heap.size, 2, none⟩ = some (.int .i64 c) ∧ w'.cell? ⟨w.heap.size, 3, none⟩ = some (.int .i64 d) ∧ w'.cell? ⟨w.heap.size + 1, 0, none⟩ = some (.int .i64 p) ∧ w'.cell? ⟨w.heap.size + 1, 1, none⟩ = some (.int .i64 q) ∧ w'.cell? ⟨w.heap.size + 1, 2, none⟩ = some (.int .i64 r) ∧ w'.cell? ⟨w.heap.size + 1, 3, none⟩ = some (.int .i64 s))
        ((refine keep8 L0 L1 ?_; repeat (first | exact Below.refl _ _ | refine Below.setCell ?_ (by first | (simp; done) | (simp; omega)) _ | refine below_bx2 ?_ _ | refine below_drw ?_ | refine below_to ?_ (by assumption))))
        (first | (go_at_call 11; (with_reducible refine (to_span a b c d _).mono ?_); rintro e wP ⟨rfl, blP⟩; obtain ⟨hcP, hfP⟩ := bcl3 blP; have hsP := blP.size; (try simp at hsP)) | (go_at_call 11; (with_reducible refine (to_span p q r s _).mono ?_); rintro e wQ ⟨rfl, blQ⟩; obtain ⟨hcQ, hfQ⟩ := bcl3 blQ; have hsQ := blQ.size; (try simp at hsQ)) | (go_at_call 20; (with_reducible refine (HI.out _).mono ?_); rintro e w3 ⟨rfl, bl3⟩; obtain ⟨hc3, hf3⟩ := bcl3 bl3; have hs3 := bl3.size; (try simp at hs3); (first | (with_reducible have hx := bcl3 (below_to (below_to blP blQ) bl3)) | (with_reducible have hx := bcl3 (below_to (below_to blQ blP) bl3)) | (with_reducible have hx := bcl3 (below_to blQ bl3)) | (with_reducible have hx := bcl3 (below_to blP bl3)) | skip); (try obtain ⟨hxc, hxf⟩ := hx)))
      all_goals
        go_wp2_with fail
        go_meet
        refine ⟨⟨_, rfl, ?_, ?_, ?_⟩, rfl⟩
        · first | exact Nat.le_refl _ | omega | (simp; omega)
        · first
          | (unfold Blk; with_reducible exact heap_alloc_new _ _)
          | (unfold Blk; with_reducible refine blk_s4 (a0 := .int .i64 0) (a1 := .int .i64 0) (a2 := .int .i64 0) (a3 := .int .i64 0) ?_ _ _ _ _
             apply at_new3 (Z := .cells #[.int .i64 0, .int .i64 0, .int .i64 0, .int .i64 0] 29)
             · repeat (first | exact Below.refl _ _ | refine below_bx2 ?_ _ | refine below_drw ?_ | refine below_to ?_ (by assumption))
             · first | rfl | (simp; done))
        · repeat (first | exact Below.refl _ _ | refine Below.setCell ?_ (by first | (simp; done) | (simp; omega)) _ | refine below_bx2 ?_ _ | refine below_drw ?_ | refine below_to ?_ (by assumption))
    case rest =>
      obtain ⟨⟨g2, rfl, hg2, hG2, hbx2⟩, rfl⟩ := hcut
      rename World => wd
      have KH : Blk wd g2 #[.int .i64 n1, .int .i64 n2, .int .i64 n3, .int .i64 n4] 29 := hG2
      have KG2 := KG.to hbx2
      have hfin := below_to b1 hbx2
      have p0 := KG2.cell0 (i := 0) (v := .int .i64 n1) rfl
      have q0 := KH.cell0 (i := 0) (v := .int .i64 n1) rfl
      have p1 := KG2.cell0 (i := 1) (v := .int .i64 n2) rfl
      have q1 := KH.cell0 (i := 1) (v := .int .i64 n2) rfl
      have p2 := KG2.cell0 (i := 2) (v := .int .i64 n3) rfl
      have q2 := KH.cell0 (i := 2) (v := .int .i64 n3) rfl
      have p3 := KG2.cell0 (i := 3) (v := .int .i64 n4) rfl
      have q3 := KH.cell0 (i := 3) (v := .int .i64 n4) rfl
      go_wp2_with fail
      refine (eq_span n1 n2 n3 n4 _).mono ?_
      rintro e wz ⟨rfl, blz⟩
      have hend := below_to hfin blz
      go_wp2
      go_ret
      exact ⟨rfl, hend⟩
end Go.Proofs.Ytibkmhmeoelpdaa
