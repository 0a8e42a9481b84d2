/- Spans of inputs of the program: MeetSpans, PickInput, WholeInputs. -/
import Derived.Test.YtibkmhmeoelpdaaFm
import Derived.Test.YtibkmhmeoelpdaaFi
namespace Go.Proofs.Ytibkmhmeoelpdaa
open Go.RowKit
open Geo (H3)

theorem ret_whole {x y : Int} (h : x = y) : Ending.returned (.int .i64 x) = .returned (.int .i64 y) := by rw [h]
theorem msp_put {V X : World} {B C E : Nat} {a0 a1 a2 a3 b0 b1 b2 b3 u v x y : Value} {T U : TypeId} (n1 : E ≠ B) (n2 : E ≠ C) (h : Blk V B #[a0, a1, a2, a3] T) (k : Blk V C #[b0, b1, b2, b3] U) (hb : Below V.heap.size V X) :
    ((((X.setCell ⟨E, 0, none⟩ u).setCell ⟨E, 1, none⟩ v).setCell ⟨E, 2, none⟩ x).setCell ⟨E, 3, none⟩ y).cell? ⟨B, 0, none⟩ = some a0 ∧ ((((X.setCell ⟨E, 0, none⟩ u).setCell ⟨E, 1, none⟩ v).setCell ⟨E, 2, none⟩ x).setCell ⟨E, 3, none⟩ y).cell? ⟨B, 1, none⟩ = some a1 ∧ ((((X.setCell ⟨E, 0, none⟩ u).setCell ⟨E, 1, none⟩ v).setCell ⟨E, 2, none⟩ x).setCell ⟨E, 3, none⟩ y).cell? ⟨B, 2, none⟩ = some a2 ∧ ((((X.setCell ⟨E, 0, none⟩ u).setCell ⟨E, 1, none⟩ v).setCell ⟨E, 2, none⟩ x).setCell ⟨E, 3, none⟩ y).cell? ⟨B, 3, none⟩ = some a3 ∧ ((((X.setCell ⟨E, 0, none⟩ u).setCell ⟨E, 1, none⟩ v).setCell ⟨E, 2, none⟩ x).setCell ⟨E, 3, none⟩ y).cell? ⟨C, 0, none⟩ = some b0 ∧ ((((X.setCell ⟨E, 0, none⟩ u).setCell ⟨E, 1, none⟩ v).setCell ⟨E, 2, none⟩ x).setCell ⟨E, 3, none⟩ y).cell? ⟨C, 1, none⟩ = some b1 ∧ ((((X.setCell ⟨E, 0, none⟩ u).setCell ⟨E, 1, none⟩ v).setCell ⟨E, 2, none⟩ x).setCell ⟨E, 3, none⟩ y).cell? ⟨C, 2, none⟩ = some b2 ∧ ((((X.setCell ⟨E, 0, none⟩ u).setCell ⟨E, 1, none⟩ v).setCell ⟨E, 2, none⟩ x).setCell ⟨E, 3, none⟩ y).cell? ⟨C, 3, none⟩ = some b3 := by
  have h1 := blk_far (blk_far (blk_far (blk_far (h.to hb) (p := ⟨E, 0, none⟩) u n1) (p := ⟨E, 1, none⟩) v n1) (p := ⟨E, 2, none⟩) x n1) (p := ⟨E, 3, none⟩) y n1
  have k1 := blk_far (blk_far (blk_far (blk_far (k.to hb) (p := ⟨E, 0, none⟩) u n2) (p := ⟨E, 1, none⟩) v n2) (p := ⟨E, 2, none⟩) x n2) (p := ⟨E, 3, none⟩) y n2
  exact ⟨h1.cell0 rfl, h1.cell0 rfl, h1.cell0 rfl, h1.cell0 rfl, k1.cell0 rfl, k1.cell0 rfl, k1.cell0 rfl, k1.cell0 rfl⟩
theorem sif_msp (a b c d p q r s : Int) : sifA (maxP a b p q).1 (maxP a b p q).2 (minP c d r s).1 (minP c d r s).2 (maxP a b p q).1 = (mspL a b c d p q r s).1 ∧ sifA (maxP a b p q).1 (maxP a b p q).2 (minP c d r s).1 (minP c d r s).2 (maxP a b p q).2 = (mspL a b c d p q r s).2 ∧ sifA (maxP a b p q).1 (maxP a b p q).2 (minP c d r s).1 (minP c d r s).2 (minP c d r s).1 = (mspH a b c d p q r s).1 ∧ sifA (maxP a b p q).1 (maxP a b p q).2 (minP c d r s).1 (minP c d r s).2 (minP c d r s).2 = (mspH a b c d p q r s).2 := by
  unfold sifA mspL mspH
  rw [← msp_eq]
  cases mspB a b c d p q r s <;> simp
set_option maxHeartbeats 3200000 in
theorem impl_msp (a b c d p q r s : Int) (w : World) (ha : I64 a) (hb : I64 b) (hc : I64 c) (hd : I64 d) (hp : I64 p) (hq : I64 q) (hr : I64 r) (hs : I64 s) :
    Calls Try.prog 20 #[.agg #[.int .i64 a, .int .i64 b, .int .i64 c, .int .i64 d], .agg #[.int .i64 p, .int .i64 q, .int .i64 r, .int .i64 s]] w fun e w' => e = .returned (.tuple #[.agg #[.int .i64 (mspL a b c d p q r s).1, .int .i64 (mspL a b c d p q r s).2, .int .i64 (mspH a b c d p q r s).1, .int .i64 (mspH a b c d p q r s).2], .bool (mspB a b c d p q r s)]) ∧ Below w.heap.size w w' := by
  have bV := below_bx2 (below_bx2 (below_one w (.cells #[.int .i64 a, .int .i64 b, .int .i64 c, .int .i64 d] 29)) (.cells #[.int .i64 p, .int .i64 q, .int .i64 r, .int .i64 s] 29)) (.cells #[.int .i64 0, .int .i64 0, .int .i64 0, .int .i64 0] 29)
  have K0 := ((blk_new w #[.int .i64 a, .int .i64 b, .int .i64 c, .int .i64 d] 29 (b := w.heap.size) (by simp)).to (below_one _ (.cells #[.int .i64 p, .int .i64 q, .int .i64 r, .int .i64 s] 29))).to (below_one _ (.cells #[.int .i64 0, .int .i64 0, .int .i64 0, .int .i64 0] 29))
  have K1 := (blk_new (w.alloc (.cells #[.int .i64 a, .int .i64 b, .int .i64 c, .int .i64 d] 29)) #[.int .i64 p, .int .i64 q, .int .i64 r, .int .i64 s] 29 (b := w.heap.size + 1) (by simp)).to (below_one _ (.cells #[.int .i64 0, .int .i64 0, .int .i64 0, .int .i64 0] 29))
  have K2 := blk_new ((w.alloc (.cells #[.int .i64 a, .int .i64 b, .int .i64 c, .int .i64 d] 29)).alloc (.cells #[.int .i64 p, .int .i64 q, .int .i64 r, .int .i64 s] 29)) #[.int .i64 0, .int .i64 0, .int .i64 0, .int .i64 0] 29 (b := w.heap.size + 1 + 1) (by simp)
  have H3 := Lib.hid (fun V => impl_max a b p q V ha.1 ha.2 hb.1 hb.2 hp.1 hp.2 hq.1 hq.2)
  have H4 := Lib.hid (fun V => impl_min c d r s V hc.1 hc.2 hd.1 hd.2 hr.1 hr.2 hs.1 hs.2)
  obtain ⟨m1, m2⟩ := max_64 ha hb hp hq
  obtain ⟨m3, m4⟩ := min_64 hc hd hr hs
  have H5 := Lib.hid (fun V => impl_sif (maxP a b p q).1 (maxP a b p q).2 (minP c d r s).1 (minP c d r s).2 V m1 m2 m3 m4)
  rw [(sif_msp a b c d p q r s).1, (sif_msp a b c d p q r s).2.1, (sif_msp a b c d p q r s).2.2.1, (sif_msp a b c d p q r s).2.2.2, ← msp_eq] at H5
  clear ha hb hc hd hp hq hr hs m1 m2 m3 m4
  generalize (mspL a b c d p q r s).1 = l1 at *
  generalize (mspL a b c d p q r s).2 = l2 at *
  generalize (mspH a b c d p q r s).1 = l3 at *
  generalize (mspH a b c d p q r s).2 = l4 at *
  generalize mspB a b c d p q r s = R at *
  generalize (maxP a b p q).1 = x1 at *
  generalize (maxP a b p q).2 = x2 at *
  generalize (minP c d r s).1 = x3 at *
  generalize (minP c d r s).2 = x4 at *
  go_enter Try.func20, Try.ntmps20
  go_upto_region 1 with fail
  generalize (((w.alloc (.cells #[.int .i64 a, .int .i64 b, .int .i64 c, .int .i64 d] 29)).alloc (.cells #[.int .i64 p, .int .i64 q, .int .i64 r, .int .i64 s] 29)).alloc (.cells #[.int .i64 0, .int .i64 0, .int .i64 0, .int .i64 0] 29)) = V at *
  have p0 := K0.cell0 (i := 0) (v := .int .i64 a) rfl
  have q0 := K1.cell0 (i := 0) (v := .int .i64 p) rfl
  have p1 := K0.cell0 (i := 1) (v := .int .i64 b) rfl
  have q1 := K1.cell0 (i := 1) (v := .int .i64 q) rfl
  have p2 := K0.cell0 (i := 2) (v := .int .i64 c) rfl
  have q2 := K1.cell0 (i := 2) (v := .int .i64 r) rfl
  have p3 := K0.cell0 (i := 3) (v := .int .i64 d) rfl
  have q3 := K1.cell0 (i := 3) (v := .int .i64 s) rfl
  go_region_held3 (fun w' => w'.cell? ⟨w.heap.size, 0, none⟩ = some (.int .i64 a) ∧ w'.cell? ⟨w.heap.size, 1, none⟩ = some (.int .i64 b) ∧ w'.cell? ⟨w.heap.size, 2, none⟩ = some (.int .i64 c) ∧ w'.cell? ⟨w.heap.size, 3, none⟩ = some (.int .i64 d) ∧ w'.cell? ⟨w.heap.size + 1, 0, none⟩ = some (.int .i64 p) ∧ w'.cell? ⟨w.heap.size + 1, 1, none⟩ = some (.int .i64 q) ∧ w'.cell? ⟨w.heap.size + 1, 2, none⟩ = some (.int .i64 r) ∧ w'.cell? ⟨w.heap.size + 1, 3, none⟩ = some (.int .i64 s))
    (first | (with_reducible refine msp_put (E := w.heap.size + 1 + 1) (by omega) (by omega) K0 K1 ?_; repeat (first | (with_reducible exact Below.refl _ _) | refine below_bx2 ?_ _ | refine below_drw ?_ | refine below_to ?_ (by assumption))) | (with_reducible refine keep8 K0 K1 ?_; repeat (first | (with_reducible exact Below.refl _ _) | refine below_bx2 ?_ _ | refine below_drw ?_ | refine below_to ?_ (by assumption))))
    (first | (go_at_call 47; (with_reducible refine (H3.out _).mono ?_); rintro e wA ⟨rfl, blA⟩) | (go_at_call 46; (with_reducible refine (H4.out _).mono ?_); rintro e wB ⟨rfl, blB⟩) | (go_at_call 48; (with_reducible refine (H5.out _).mono ?_); rintro e wC ⟨rfl, blC⟩; have E1 : Blk wC _ _ _ := K2.to (by repeat (first | (with_reducible exact Below.refl _ _) | refine below_bx2 ?_ _ | refine below_drw ?_ | refine below_to ?_ (by assumption))); have z0 := E1.cell0 (i := 0) (v := .int .i64 0) rfl; have z1 := E1.cell0 (i := 1) (v := .int .i64 0) rfl; have z2 := E1.cell0 (i := 2) (v := .int .i64 0) rfl; have z3 := E1.cell0 (i := 3) (v := .int .i64 0) rfl; have f0 := E1.free 0; have f1 := E1.free 1; have f2 := E1.free 2; have f3 := E1.free 3))
  all_goals
    have b7 : Below w.heap.size w wC := below_to bV (by repeat (first | (with_reducible exact Below.refl _ _) | refine below_bx2 ?_ _ | refine below_drw ?_ | refine below_to ?_ (by assumption)))
    go_wp2_with fail
    exact bodyPost_ret (v := .tuple #[.agg #[.int .i64 l1, .int .i64 l2, .int .i64 l3, .int .i64 l4], .bool R]) (by simp [results, Try.results20, go_sem, z0, z1, z2, z3]) rfl ⟨rfl, ((((b7.setCell (p := ⟨w.heap.size + 1 + 1, 0, none⟩) (Nat.le_add_right _ 2) (.int .i64 l1)).setCell (p := ⟨w.heap.size + 1 + 1, 1, none⟩) (Nat.le_add_right _ 2) (.int .i64 l2)).setCell (p := ⟨w.heap.size + 1 + 1, 2, none⟩) (Nat.le_add_right _ 2) (.int .i64 l3)).setCell (p := ⟨w.heap.size + 1 + 1, 3, none⟩) (Nat.le_add_right _ 2) (.int .i64 l4))⟩
set_option maxHeartbeats 3200000 in
theorem impl_whi (a b c d : Int) (w : World) (ha : I64 a) (hb : I64 b) (hc : I64 c) (hd : I64 d) :
    Calls Try.prog 23 #[.agg #[.int .i64 a, .int .i64 b, .int .i64 c, .int .i64 d]] w fun e w' => e = .returned (.int .i64 (whoP a b c d)) ∧ Below w.heap.size w w' := by
  have bV := below_one w (.cells #[.int .i64 a, .int .i64 b, .int .i64 c, .int .i64 d] 29)
  have K0 := blk_new w #[.int .i64 a, .int .i64 b, .int .i64 c, .int .i64 d] 29 (b := w.heap.size) (by simp)
  have HA1 := Lib.hid (fun V => impl_ofA (-1000) 1 V (by omega) (by omega) (by omega) (by omega))
  have HA2 := Lib.hid (fun V => impl_ofA 1000 1 V (by omega) (by omega) (by omega) (by omega))
  rw [(one_of (n := -1000) (by omega)).1, (one_of (n := -1000) (by omega)).2.1] at HA1
  rw [(one_of (n := 1000) (by omega)).1, (one_of (n := 1000) (by omega)).2.1] at HA2
  have H1 := Lib.hid (fun V => impl_isp (-1000) 1 1000 1 a b V ⟨by omega, by omega⟩ ⟨by omega, by omega⟩ ⟨by omega, by omega⟩ ⟨by omega, by omega⟩ ha hb)
  have H2 := Lib.hid (fun V => impl_isp (-1000) 1 1000 1 c d V ⟨by omega, by omega⟩ ⟨by omega, by omega⟩ ⟨by omega, by omega⟩ ⟨by omega, by omega⟩ hc hd)
  have H3 := Lib.hid (fun V => impl_spn a b c d V ha hb hc hd)
  have H4 := Lib.hid (fun V => impl_ceilR a b V ha.1 ha.2 hb.1 hb.2)
  have H5 := Lib.hid (fun V => impl_floorR c d V hc.1 hc.2 hd.1 hd.2)
  clear ha hb hc hd
  go_enter Try.func23, Try.ntmps23
  go_wp2_with fail
  generalize (w.alloc (.cells #[.int .i64 a, .int .i64 b, .int .i64 c, .int .i64 d] 29)) = V at *
  refine (HA1.out _).mono ?_
  rintro e v1 ⟨rfl, bl⟩
  have K_1 := K0.to bl
  have b_2 := below_to bV bl
  clear K0 bV
  clear bl
  go_wp2_with fail
  refine (HA2.out _).mono ?_
  rintro e v2 ⟨rfl, bl⟩
  have K_3 := K_1.to bl
  have b_4 := below_to b_2 bl
  clear K_1 b_2
  clear bl
  have bN := below_one v2 (.cells #[.int .i64 (-1000), .int .i64 1, .int .i64 1000, .int .i64 1] 29)
  have S0 := blk_new v2 #[.int .i64 (-1000), .int .i64 1, .int .i64 1000, .int .i64 1] 29 rfl
  have K_5 := K_3.to bN
  have b_6 := below_to b_4 bN
  clear K_3 b_4
  clear bN
  have q0 := K_5.cell0 (i := 0) (v := .int .i64 a) rfl
  have q1 := K_5.cell0 (i := 1) (v := .int .i64 b) rfl
  go_wp2_with fail
  clear q0 q1
  generalize v2.alloc (.cells #[.int .i64 (-1000), .int .i64 1, .int .i64 1000, .int .i64 1] 29) = X at *
  obtain ⟨sb, hbk⟩ : ∃ b, v2.heap.size = b := ⟨_, rfl⟩
  rw [hbk] at S0 ⊢
  clear hbk
  refine (H1.out _).mono ?_
  rintro e v3 ⟨rfl, bl⟩
  have K_7 := K_5.to bl
  have b_8 := below_to b_6 bl
  have S_9 := S0.to bl
  clear K_5 b_6 S0
  clear bl
  cases h1 : ispB (-1000) 1 1000 1 a b with
  | false =>
    have HN := Lib.hid (who_out (a := a) (b := b) (c := c) (d := d) (fun h => by rw [h1] at h; cases h.2.1))
    clear h1
    go_wp2
    go_ret
    exact ⟨ret_whole HN.out.symm, b_8⟩
  | true =>
    have q0 := S_9.cell0 (i := 0) rfl
    have q1 := S_9.cell0 (i := 1) rfl
    have q2 := S_9.cell0 (i := 2) rfl
    have q3 := S_9.cell0 (i := 3) rfl
    have q4 := K_7.cell0 (i := 2) (v := .int .i64 c) rfl
    have q5 := K_7.cell0 (i := 3) (v := .int .i64 d) rfl
    go_wp2_with fail
    clear q0 q1 q2 q3 q4 q5
    refine (H2.out _).mono ?_
    rintro e v4 ⟨rfl, bl⟩
    have K_10 := K_7.to bl
    have b_11 := below_to b_8 bl
    have S_12 := S_9.to bl
    clear K_7 b_8 S_9
    clear bl
    cases h2 : ispB (-1000) 1 1000 1 c d with
    | false =>
      have HN := Lib.hid (who_out (a := a) (b := b) (c := c) (d := d) (fun h => by rw [h2] at h; cases h.2.2))
      clear h1 h2
      go_wp2
      go_ret
      exact ⟨ret_whole HN.out.symm, b_11⟩
    | true =>
      have q0 := K_10.cell0 (i := 0) (v := .int .i64 a) rfl
      have q1 := K_10.cell0 (i := 1) (v := .int .i64 b) rfl
      have q2 := K_10.cell0 (i := 2) (v := .int .i64 c) rfl
      have q3 := K_10.cell0 (i := 3) (v := .int .i64 d) rfl
      go_wp2_with fail
      clear q0 q1 q2 q3
      refine (H3.out _).mono ?_
      rintro e v5 ⟨rfl, bl⟩
      have K_13 := K_10.to bl
      have b_14 := below_to b_11 bl
      have S_15 := S_12.to bl
      clear K_10 b_11 S_12
      clear bl
      cases h3 : spnB a b c d with
      | false =>
        have HN := Lib.hid (who_out (a := a) (b := b) (c := c) (d := d) (fun h => by rw [h3] at h; cases h.1))
        clear h1 h2 h3
        go_wp2
        go_ret
        exact ⟨ret_whole HN.out.symm, b_14⟩
      | true =>
        have HN := Lib.hid (who_in h3 h1 h2)
        have i1 := cei_in (spn_iff.1 h3).1
        have i2 := flo_in (spn_iff.1 h3).2.1
        clear h1 h2 h3
        generalize ceiR a b = lo at *
        generalize floR c d = hi at *
        have e1 : IntKind.i64.wrap (hi - lo) = hi - lo := IntWalk.i64_in _ (by omega)
        have e2 : IntKind.i64.wrap (hi - lo + 1) = hi - lo + 1 := IntWalk.i64_in _ (by omega)
        clear i1 i2
        have p0 := K_13.cell0 (i := 0) (v := .int .i64 a) rfl
        have p1 := K_13.cell0 (i := 1) (v := .int .i64 b) rfl
        have p2 := K_13.cell0 (i := 2) (v := .int .i64 c) rfl
        have p3 := K_13.cell0 (i := 3) (v := .int .i64 d) rfl
        go_wp2_with fail
        go_region_held3 (fun w' => w'.cell? ⟨w.heap.size, 0, none⟩ = some (.int .i64 a) ∧ w'.cell? ⟨w.heap.size, 1, none⟩ = some (.int .i64 b) ∧ w'.cell? ⟨w.heap.size, 2, none⟩ = some (.int .i64 c) ∧ w'.cell? ⟨w.heap.size, 3, none⟩ = some (.int .i64 d))
          ((refine keep4 K_13 ?_; repeat (first | (with_reducible exact Below.refl _ _) | refine below_bx2 ?_ _ | refine below_drw ?_ | refine below_to ?_ (by assumption))))
          (first | (go_at_call 45; (with_reducible refine (H5.out _).mono ?_); rintro e wA ⟨rfl, blA⟩) | (go_at_call 44; (with_reducible refine (H4.out _).mono ?_); rintro e wB ⟨rfl, blB⟩))
        all_goals
          go_wp2_with fail
          go_ret
          refine ⟨ret_whole HN.out.symm, ?_⟩
          refine below_to b_14 ?_
          repeat (first | (with_reducible exact Below.refl _ _) | refine below_bx2 ?_ _ | refine below_drw ?_ | refine below_to ?_ (by assumption))
end Go.Proofs.Ytibkmhmeoelpdaa
