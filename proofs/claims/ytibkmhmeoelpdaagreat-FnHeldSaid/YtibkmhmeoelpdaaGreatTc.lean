/- Spans of inputs of the program: MeetSpans, PickInput, WholeInputs. PickInput of the program; the walks of the laws of MeetSpans, PickInput, WholeInputs. -/
import Derived.Test.YtibkmhmeoelpdaaGreatFm
import Derived.Test.YtibkmhmeoelpdaaGreatFi
import Derived.Test.YtibkmhmeoelpdaaGreatFa
import Derived.Test.YtibkmhmeoelpdaaGreatKz
import Derived.Test.YtibkmhmeoelpdaaGreatYz
namespace Go.Proofs.YtibkmhmeoelpdaaGreat
open Go.RowKit
open Geo (H3)

theorem ret_whole {x y : Int} (h : x = y) : Ending.returned (.int .i64 x) = .returned (.int .i64 y) := by rw [h]
set_option maxHeartbeats 3200000 in
theorem impl_whi (a b c d : Int) (w : World) (ha : I64 a) (hb : I64 b) (hc : I64 c) (hd : I64 d) :
    Calls Tryz.prog 35 #[.agg #[.int .i64 a, .int .i64 b, .int .i64 c, .int .i64 d]] w fun e w' => e = .returned (.int .i64 (whoP a b c d)) ∧ Below w.heap.size w w' := by
  have bV := below_one w (.cells #[.int .i64 a, .int .i64 b, .int .i64 c, .int .i64 d] 35)
  have K0 := blk_new w #[.int .i64 a, .int .i64 b, .int .i64 c, .int .i64 d] 35 (b := w.heap.size) (by simp)
  have HA1 := Lib.hid (fun V => impl_ofA (-1000) 1 V (by omega) (by omega) (by omega) (by omega))
  have HA2 := Lib.hid (fun V => impl_ofA 1000 1 V (by omega) (by omega) (by omega) (by omega))
  rw [(one_of (n := -1000) (by omega)).1, (one_of (n := -1000) (by omega)).2.1] at HA1
  rw [(one_of (n := 1000) (by omega)).1, (one_of (n := 1000) (by omega)).2.1] at HA2
  have H1 := Lib.hid (fun V => impl_isp (-1000) 1 1000 1 a b V ⟨by omega, by omega⟩ ⟨by omega, by omega⟩ ⟨by omega, by omega⟩ ⟨by omega, by omega⟩ ha hb)
  have H2 := Lib.hid (fun V => impl_isp (-1000) 1 1000 1 c d V ⟨by omega, by omega⟩ ⟨by omega, by omega⟩ ⟨by omega, by omega⟩ ⟨by omega, by omega⟩ hc hd)
  have H3 := Lib.hid (fun V => impl_spn a b c d V ha hb hc hd)
  have H4 := Lib.hid (fun V => impl_ceilR a b V ha.1 ha.2 hb.1 hb.2)
  have H5 := Lib.hid (fun V => impl_floorR c d V hc.1 hc.2 hd.1 hd.2)
  clear ha hb hc hd
  go_enter Tryz.func35, Tryz.ntmps35
  go_wp2_with fail
  generalize (w.alloc (.cells #[.int .i64 a, .int .i64 b, .int .i64 c, .int .i64 d] 35)) = V at *
  refine (HA1.out _).mono ?_
  rintro e v1 ⟨rfl, bl⟩
  have K_1 := K0.to bl
  have b_2 := below_to bV bl
  clear K0 bV
  clear bl
  go_wp2_with fail
  refine (HA2.out _).mono ?_
  rintro e v2 ⟨rfl, bl⟩
  have K_3 := K_1.to bl
  have b_4 := below_to b_2 bl
  clear K_1 b_2
  clear bl
  have bN := below_one v2 (.cells #[.int .i64 (-1000), .int .i64 1, .int .i64 1000, .int .i64 1] 35)
  have S0 := blk_new v2 #[.int .i64 (-1000), .int .i64 1, .int .i64 1000, .int .i64 1] 35 rfl
  have K_5 := K_3.to bN
  have b_6 := below_to b_4 bN
  clear K_3 b_4
  clear bN
  have q0 := K_5.cell0 (i := 0) (v := .int .i64 a) rfl
  have q1 := K_5.cell0 (i := 1) (v := .int .i64 b) rfl
  go_wp2_with fail
  clear q0 q1
  generalize v2.alloc (.cells #[.int .i64 (-1000), .int .i64 1, .int .i64 1000, .int .i64 1] 35) = X at *
  obtain ⟨sb, hbk⟩ : ∃ b, v2.heap.size = b := ⟨_, rfl⟩
  rw [hbk] at S0 ⊢
  clear hbk
  refine (H1.out _).mono ?_
  rintro e v3 ⟨rfl, bl⟩
  have K_7 := K_5.to bl
  have b_8 := below_to b_6 bl
  have S_9 := S0.to bl
  clear K_5 b_6 S0
  clear bl
  cases h1 : ispB (-1000) 1 1000 1 a b with
  | false =>
    have HN := Lib.hid (who_out (a := a) (b := b) (c := c) (d := d) (fun h => by rw [h1] at h; cases h.2.1))
    clear h1
    go_wp2
    go_ret
    exact ⟨ret_whole HN.out.symm, b_8⟩
  | true =>
    have q0 := S_9.cell0 (i := 0) rfl
    have q1 := S_9.cell0 (i := 1) rfl
    have q2 := S_9.cell0 (i := 2) rfl
    have q3 := S_9.cell0 (i := 3) rfl
    have q4 := K_7.cell0 (i := 2) (v := .int .i64 c) rfl
    have q5 := K_7.cell0 (i := 3) (v := .int .i64 d) rfl
    go_wp2_with fail
    clear q0 q1 q2 q3 q4 q5
    refine (H2.out _).mono ?_
    rintro e v4 ⟨rfl, bl⟩
    have K_10 := K_7.to bl
    have b_11 := below_to b_8 bl
    have S_12 := S_9.to bl
    clear K_7 b_8 S_9
    clear bl
    cases h2 : ispB (-1000) 1 1000 1 c d with
    | false =>
      have HN := Lib.hid (who_out (a := a) (b := b) (c := c) (d := d) (fun h => by rw [h2] at h; cases h.2.2))
      clear h1 h2
      go_wp2
      go_ret
      exact ⟨ret_whole HN.out.symm, b_11⟩
    | true =>
      have q0 := K_10.cell0 (i := 0) (v := .int .i64 a) rfl
      have q1 := K_10.cell0 (i := 1) (v := .int .i64 b) rfl
      have q2 := K_10.cell0 (i := 2) (v := .int .i64 c) rfl
      have q3 := K_10.cell0 (i := 3) (v := .int .i64 d) rfl
      go_wp2_with fail
      clear q0 q1 q2 q3
      refine (H3.out _).mono ?_
      rintro e v5 ⟨rfl, bl⟩
      have K_13 := K_10.to bl
      have b_14 := below_to b_11 bl
      have S_15 := S_12.to bl
      clear K_10 b_11 S_12
      clear bl
      cases h3 : spnB a b c d with
      | false =>
        have HN := Lib.hid (who_out (a := a) (b := b) (c := c) (d := d) (fun h => by rw [h3] at h; cases h.1))
        clear h1 h2 h3
        go_wp2
        go_ret
        exact ⟨ret_whole HN.out.symm, b_14⟩
      | true =>
        have HN := Lib.hid (who_in h3 h1 h2)
        have i1 := cei_in (spn_iff.1 h3).1
        have i2 := flo_in (spn_iff.1 h3).2.1
        clear h1 h2 h3
        generalize ceiR a b = lo at *
        generalize floR c d = hi at *
        have e1 : IntKind.i64.wrap (hi - lo) = hi - lo := IntWalk.i64_in _ (by omega)
        have e2 : IntKind.i64.wrap (hi - lo + 1) = hi - lo + 1 := IntWalk.i64_in _ (by omega)
        clear i1 i2
        have p0 := K_13.cell0 (i := 0) (v := .int .i64 a) rfl
        have p1 := K_13.cell0 (i := 1) (v := .int .i64 b) rfl
        have p2 := K_13.cell0 (i := 2) (v := .int .i64 c) rfl
        have p3 := K_13.cell0 (i := 3) (v := .int .i64 d) rfl
        go_wp2_with fail
        go_region_held3 (fun w' => w'.cell? ⟨w.heap.size, 0, none⟩ = some (.int .i64 a) ∧ w'.cell? ⟨w.heap.size, 1, none⟩ = some (.int .i64 b) ∧ w'.cell? ⟨w.heap.size, 2, none⟩ = some (.int .i64 c) ∧ w'.cell? ⟨w.heap.size, 3, none⟩ = some (.int .i64 d))
          ((refine keep4 K_13 ?_; repeat (first | (with_reducible exact Below.refl _ _) | refine below_bx2 ?_ _ | refine below_drw ?_ | refine below_to ?_ (by assumption))))
          (first | (go_at_call 76; (with_reducible refine (H5.out _).mono ?_); rintro e wA ⟨rfl, blA⟩) | (go_at_call 75; (with_reducible refine (H4.out _).mono ?_); rintro e wB ⟨rfl, blB⟩))
        all_goals
          go_wp2_with fail
          go_ret
          refine ⟨ret_whole HN.out.symm, ?_⟩
          refine below_to b_14 ?_
          repeat (first | (with_reducible exact Below.refl _ _) | refine below_bx2 ?_ _ | refine below_drw ?_ | refine below_to ?_ (by assumption))
open Go.RowKit
open Geo (H3)

theorem pin_put4 {V X : World} {B E : Nat} {a0 a1 a2 a3 u v : Value} {T : TypeId} (n1 : E ≠ B) (h : Blk V B #[a0, a1, a2, a3] T) (hb : Below V.heap.size V X) :
    ((X.setCell ⟨E, 0, none⟩ u).setCell ⟨E, 1, none⟩ v).cell? ⟨B, 0, none⟩ = some a0 ∧ ((X.setCell ⟨E, 0, none⟩ u).setCell ⟨E, 1, none⟩ v).cell? ⟨B, 1, none⟩ = some a1 ∧ ((X.setCell ⟨E, 0, none⟩ u).setCell ⟨E, 1, none⟩ v).cell? ⟨B, 2, none⟩ = some a2 ∧ ((X.setCell ⟨E, 0, none⟩ u).setCell ⟨E, 1, none⟩ v).cell? ⟨B, 3, none⟩ = some a3 := by
  have h1 := blk_far (blk_far (h.to hb) (p := ⟨E, 0, none⟩) u n1) (p := ⟨E, 1, none⟩) v n1
  exact ⟨h1.cell0 rfl, h1.cell0 rfl, h1.cell0 rfl, h1.cell0 rfl⟩
set_option maxHeartbeats 3200000 in
theorem impl_pin (a b c d wish : Int) (w : World) (ha : I64 a) (hb : I64 b) (hc : I64 c) (hd : I64 d) :
    Calls Tryz.prog 32 #[.agg #[.int .i64 a, .int .i64 b, .int .i64 c, .int .i64 d], .int .i64 wish] w fun e w' => e = .returned (.agg #[.int .i64 (pinP a b c d wish).1, .int .i64 (pinP a b c d wish).2]) ∧ Below w.heap.size w w' := by
  have bV := below_bx2 (below_one w (.cells #[.int .i64 a, .int .i64 b, .int .i64 c, .int .i64 d] 35)) (.cells #[.int .i64 0, .int .i64 0] 33)
  have K0 := (blk_new w #[.int .i64 a, .int .i64 b, .int .i64 c, .int .i64 d] 35 (b := w.heap.size) (by simp)).to (below_one _ (.cells #[.int .i64 0, .int .i64 0] 33))
  have K1 := blk_new (w.alloc (.cells #[.int .i64 a, .int .i64 b, .int .i64 c, .int .i64 d] 35)) #[.int .i64 0, .int .i64 0] 33 (b := w.heap.size + 1) (by simp)
  have H1 := Lib.hid (fun V => impl_spn a b c d V ha hb hc hd)
  obtain ⟨n, hn⟩ : ∃ n, n = clpI wish (-1000) 1000 := ⟨_, rfl⟩
  have hn0 : min (max wish (-1000)) 1000 = n := by rw [hn]; unfold clpI; omega
  have hn1 : -1000 ≤ n ∧ n ≤ 1000 := by rw [hn]; unfold clpI; omega
  have HN0 := Lib.hid (fun h => pin_0 (a := a) (b := b) (c := c) (d := d) (wish := wish) h)
  have HNA := Lib.hid (fun h l => pin_a (a := a) (b := b) (c := c) (d := d) (wish := wish) (n := n) h hn l)
  have HNB := Lib.hid (fun h l => pin_b (a := a) (b := b) (c := c) (d := d) (wish := wish) (n := n) h hn l)
  have HO := Lib.hid (fun V => impl_ofA n 1 V (by omega) (by omega) (by omega) (by omega))
  rw [(one_of (n := n) (by omega)).1, (one_of (n := n) (by omega)).2.1] at HO
  have H3 := Lib.hid (fun V => impl_ceilR a b V ha.1 ha.2 hb.1 hb.2)
  have H4 := Lib.hid (fun V => impl_floorR c d V hc.1 hc.2 hd.1 hd.2)
  have H5 := Lib.hid (fun V => impl_max n 1 a b V (by omega) (by omega) (by omega) (by omega) ha.1 ha.2 hb.1 hb.2)
  have m64 : I64 (maxP n 1 a b).1 ∧ I64 (maxP n 1 a b).2 := max_64 (show I64 n from ⟨by omega, by omega⟩) (show I64 1 from ⟨by omega, by omega⟩) ha hb
  have H6 := Lib.hid (fun V => impl_min (maxP n 1 a b).1 (maxP n 1 a b).2 c d V m64.1.1 m64.1.2 m64.2.1 m64.2.2 hc.1 hc.2 hd.1 hd.2)
  clear ha hb hc hd m64 hn
  have c0 := K0.cell0 (i := 0) (v := .int .i64 a) rfl
  have c1 := K0.cell0 (i := 1) (v := .int .i64 b) rfl
  have c2 := K0.cell0 (i := 2) (v := .int .i64 c) rfl
  have c3 := K0.cell0 (i := 3) (v := .int .i64 d) rfl
  go_enter Tryz.func32, Tryz.ntmps32
  go_wp2_with fail
  clear c0 c1 c2 c3
  generalize ((w.alloc (.cells #[.int .i64 a, .int .i64 b, .int .i64 c, .int .i64 d] 35)).alloc (.cells #[.int .i64 0, .int .i64 0] 33)) = V at *
  refine (H1.out _).mono ?_
  rintro e v1 ⟨rfl, bl⟩
  have K_1 := K0.to bl
  have R_2 := K1.to bl
  have b_3 := below_to bV bl
  clear K0 K1 bV
  clear bl
  cases h1 : spnB a b c d with
  | false =>
    have HN := Lib.hid (HN0.out h1)
    have z0 := R_2.cell0 (i := 0) (v := .int .i64 0) rfl
    have z1 := R_2.cell0 (i := 1) (v := .int .i64 0) rfl
    have f0 := R_2.free 0
    have f1 := R_2.free 1
    go_wp2_with fail
    exact bodyPost_ret (v := .agg #[.int .i64 0, .int .i64 0]) (by simp [results, Tryz.results32, go_sem, z0, z1]) rfl ⟨by rw [HN.out], ((b_3.setCell (p := ⟨w.heap.size + 1, 0, none⟩) (Nat.le_add_right _ _) (.int .i64 0)).setCell (p := ⟨w.heap.size + 1, 1, none⟩) (Nat.le_add_right _ _) (.int .i64 0))⟩
  | true =>
    have HA := Lib.hid (HNA.out h1)
    have HB := Lib.hid (HNB.out h1)
    have ic := cei_in (spn_iff.1 h1).1
    have jf := flo_in (spn_iff.1 h1).2.1
    clear h1 HNA HNB HN0 H1
    generalize ceiR a b = lo at *
    generalize floR c d = hi at *
    have c0 := K_1.cell0 (i := 0) (v := .int .i64 a) rfl
    have c1 := K_1.cell0 (i := 1) (v := .int .i64 b) rfl
    have c2 := K_1.cell0 (i := 2) (v := .int .i64 c) rfl
    have c3 := K_1.cell0 (i := 3) (v := .int .i64 d) rfl
    go_upto_region 4 with fail
    try rw [hn0]
    go_cut [5, 6] from 14 to 19 (fun s5 s6 wx => s5 = .int .i64 lo ∧ s6 = .int .i64 hi ∧ Below v1.heap.size v1 wx)
    case first =>
      go_region_held3 (fun w' => w'.cell? ⟨w.heap.size, 0, none⟩ = some (.int .i64 a) ∧ w'.cell? ⟨w.heap.size, 1, none⟩ = some (.int .i64 b) ∧ w'.cell? ⟨w.heap.size, 2, none⟩ = some (.int .i64 c) ∧ w'.cell? ⟨w.heap.size, 3, none⟩ = some (.int .i64 d))
        ((refine keep4 K_1 ?_; repeat (first | (with_reducible exact Below.refl _ _) | refine below_bx2 ?_ _ | refine below_drw ?_ | refine below_to ?_ (by assumption))))
        (first | (go_at_call 76; (with_reducible refine (H4.out _).mono ?_); rintro e wA ⟨rfl, blA⟩) | (go_at_call 75; (with_reducible refine (H3.out _).mono ?_); rintro e wB ⟨rfl, blB⟩))
      all_goals
        go_wp2_with fail
        go_meet
        refine ⟨rfl, rfl, ?_⟩
        repeat (first | (with_reducible exact Below.refl _ _) | refine below_bx2 ?_ _ | refine below_drw ?_ | refine below_to ?_ (by assumption))
    case rest =>
      obtain ⟨rfl, rfl, hbx⟩ := hcut
      clear c0 c1 c2 c3
      have K_4 := K_1.to hbx
      have R_5 := R_2.to hbx
      have b_6 := below_to b_3 hbx
      clear K_1 R_2 b_3
      clear hbx
      by_cases hl : hi < lo
      · have HN := Lib.hid (HA.out hl)
        generalize (maxP n 1 a b).1 = x1 at *
        generalize (maxP n 1 a b).2 = x2 at *
        generalize minP x1 x2 c d = y at *
        obtain ⟨y1, y2⟩ := y
        simp only at H6 HN
        have c0 := K_4.cell0 (i := 0) (v := .int .i64 a) rfl
        have c1 := K_4.cell0 (i := 1) (v := .int .i64 b) rfl
        have c2 := K_4.cell0 (i := 2) (v := .int .i64 c) rfl
        have c3 := K_4.cell0 (i := 3) (v := .int .i64 d) rfl
        go_upto_region 6 with fail
        have n1 : w.heap.size + 1 ≠ w.heap.size := by omega
        go_region_held3 (fun w' => w'.cell? ⟨w.heap.size, 0, none⟩ = some (.int .i64 a) ∧ w'.cell? ⟨w.heap.size, 1, none⟩ = some (.int .i64 b) ∧ w'.cell? ⟨w.heap.size, 2, none⟩ = some (.int .i64 c) ∧ w'.cell? ⟨w.heap.size, 3, none⟩ = some (.int .i64 d))
          (first | (with_reducible refine pin_put4 n1 K_4 ?_; repeat (first | (with_reducible exact Below.refl _ _) | refine below_bx2 ?_ _ | refine below_drw ?_ | refine below_to ?_ (by assumption))) | (with_reducible refine keep4 K_4 ?_; repeat (first | (with_reducible exact Below.refl _ _) | refine below_bx2 ?_ _ | refine below_drw ?_ | refine below_to ?_ (by assumption))))
          (first | (go_at_call 30; (with_reducible refine (HO.out _).mono ?_); rintro e wO ⟨rfl, blO⟩) | (go_at_call 78; (with_reducible refine (H5.out _).mono ?_); rintro e wA ⟨rfl, blA⟩) | (go_at_call 77; (with_reducible refine (H6.out _).mono ?_); rintro e wB ⟨rfl, blB⟩; have E1 : Blk wB _ _ _ := R_5.to (by repeat (first | (with_reducible exact Below.refl _ _) | refine below_bx2 ?_ _ | refine below_drw ?_ | refine below_to ?_ (by assumption))); have z0 := E1.cell0 (i := 0) (v := .int .i64 0) rfl; have z1 := E1.cell0 (i := 1) (v := .int .i64 0) rfl; have f0 := E1.free 0; have f1 := E1.free 1))
        all_goals
          have b7 : Below w.heap.size w wB := below_to b_6 (by repeat (first | (with_reducible exact Below.refl _ _) | refine below_bx2 ?_ _ | refine below_drw ?_ | refine below_to ?_ (by assumption)))
          go_wp2_with fail
          exact bodyPost_ret (v := .agg #[.int .i64 y1, .int .i64 y2]) (by simp [results, Tryz.results32, go_sem, z0, z1]) rfl ⟨by rw [HN.out], ((b7.setCell (p := ⟨w.heap.size + 1, 0, none⟩) (Nat.le_add_right _ _) (.int .i64 y1)).setCell (p := ⟨w.heap.size + 1, 1, none⟩) (Nat.le_add_right _ _) (.int .i64 y2))⟩
      · have HN := Lib.hid (HB.out (by omega))
        obtain ⟨x, hx⟩ : ∃ x, min (max n lo) hi = x := ⟨_, rfl⟩
        have hx1 : -1000000000000000000 ≤ x ∧ x ≤ 1000000000000000000 := by omega
        rw [hx] at HN
        have HX := Lib.hid (fun V => impl_ofA x 1 V (by omega) (by omega) (by omega) (by omega))
        rw [(one_of (n := x) (by omega)).1, (one_of (n := x) (by omega)).2.1] at HX
        clear hx1
        go_wp2_with fail
        try rw [hx]
        refine (HX.out _).mono ?_
        rintro e v2 ⟨rfl, bl⟩
        have K_7 := K_4.to bl
        have R_8 := R_5.to bl
        have b_9 := below_to b_6 bl
        clear K_4 R_5 b_6
        clear bl
        have z0 := R_8.cell0 (i := 0) (v := .int .i64 0) rfl
        have z1 := R_8.cell0 (i := 1) (v := .int .i64 0) rfl
        have f0 := R_8.free 0
        have f1 := R_8.free 1
        go_wp2_with fail
        exact bodyPost_ret (v := .agg #[.int .i64 x, .int .i64 1]) (by simp [results, Tryz.results32, go_sem, z0, z1]) rfl ⟨by rw [HN.out], ((b_9.setCell (p := ⟨w.heap.size + 1, 0, none⟩) (Nat.le_add_right _ _) (.int .i64 x)).setCell (p := ⟨w.heap.size + 1, 1, none⟩) (Nat.le_add_right _ _) (.int .i64 1))⟩
end Go.Proofs.YtibkmhmeoelpdaaGreat
