/- The walk of the law of GrowAlong. -/
import Derived.Test.YtefafkainfhhkaaGu
import Derived.Test.YtefafkainfhhkaaMm
namespace Go.Proofs.Ytefafkainfhhkaa
open Go.RowKit
open Geo (H3)

set_option maxRecDepth 100000 in
set_option maxHeartbeats 6400000 in
theorem law_grw (a : Option Addr) (n ca : Nat) (ps : List H3) (bx : Int) (cy : Int) (lo : Int) (hi : Int) (wbx : (Lit.int .i64 bx).wf = true) (wcy : (Lit.int .i64 cy).wf = true) (wlo : (Lit.int .i64 lo).wf = true) (whi : (Lit.int .i64 hi).wf = true) (w : World) (hl : ps.length = n) (hn : n ≤ maxLen) (h64 : ∀ h ∈ ps, In64 h) (hA : HsAt w a ps) (hle : (n : Int) ≤ 1048576) :
    Calls Try.prog 4 #[.agg #[.slice a n ca], .int .i64 bx, .int .i64 cy, .int .i64 lo, .int .i64 hi] w fun e w' => e = .returned (.bool true) ∧ Below w.heap.size w w' := by
  have ibx := bounds_i64 wbx
  have icy := bounds_i64 wcy
  have ilo := bounds_i64 wlo
  have ihi := bounds_i64 whi
  have HTA := Lib.hid (fun V (h : Below w.heap.size w V) => to_region2 a n ca ps V hl (by omega) (hA.below h))
  have HEA := Lib.hid (fun V a1 a2 c1 c2 (h1 : HsAt V a1 ps) (h2 : HsAt V a2 ps) => eq_region a1 a2 n c1 c2 ps V hl (by omega) h1 h2)
  have HZA := Lib.hid (fun V => sz_region a n ca V hn 1048576 (by omega) (by omega) (1048576 - n) (by rw [if_pos (by omega)]))
  have HS := Lib.hid (fun V a1 c1 (h0 : a1 = none → n = 0 ∧ c1 = 0) (h1 : HsAt V a1 ps) => spec_grw a1 n c1 ps bx cy lo hi V hl (by omega) h64 h0 h1)
  have HI := Lib.hid (fun V a1 c1 (h0 : a1 = none → n = 0 ∧ c1 = 0) (h1 : HsAt V a1 ps) => impl_grw a1 n c1 ps bx cy lo hi V hl (by omega) h64 h0 h1)
  have hL : (gwL ps bx cy lo hi).length ≤ 40 := gw_len ps bx cy lo hi
  have HER := Lib.hid (fun V a1 a2 c1 c2 (h1 : HsAt V a1 (gwL ps bx cy lo hi)) (h2 : HsAt V a2 (gwL ps bx cy lo hi)) => eq_region a1 a2 (gwL ps bx cy lo hi).length c1 c2 (gwL ps bx cy lo hi) V rfl (by omega) h1 h2)
  unfold AnsR at HS HI
  generalize gwL ps bx cy lo hi = L at *
  generalize gwB ps bx cy lo hi = R at *
  generalize L.length = len at *
  clear hn hA hl h64 wbx wcy wlo whi
  go_enter Try.func4, Try.ntmps4
  go_wp2_with fail
  have b0 := below_one w (.cells #[.slice a n ca] 24)
  have q0 : (w.alloc (.cells #[.slice a n ca] 24)).cell? ⟨w.heap.size, 0, none⟩ = some (.slice a n ca) := by simp
  generalize w.alloc (.cells #[.slice a n ca] 24) = V at *
  refine (HZA.out _).mono ?_
  rintro e w1 ⟨rfl, bl1⟩
  have b1 := below_to b0 bl1
  have p0 := cell_to q0 bl1
  clear bl1 b0 q0
  have zV : w.heap.size < w1.heap.size := block_lt_of_cell p0
  have hz1 : ¬ ((1048576 - (n : Int)) < 0) := by omega
  go_wp2_with fail
  refine (HTA.out _ b1).mono ?_
  rintro e wA ⟨aA, cA, rfl, hoA, blA⟩
  have HoA := Lib.hid hoA
  clear hoA
  have p0_1 := cell_to p0 blA
  have b_2 := below_to b1 blA
  clear p0 b1
  have zA0 := blA.size
  clear blA
  go_wp2_with fail
  refine (HS.out _ _ _ (own_nil HoA.out) (own_hs HoA.out)).mono ?_
  rintro e wC ⟨aw, cw, rfl, how, blC⟩
  clear HoA
  have zzwC := blC.size
  have OW := Lib.hid (own_below how (below_one wC (.cells #[.slice aw len cw] 32)))
  have xw := Lib.hid (fun p (h : (Value.slice aw len cw).ownBlock = some p) => own_block_lt how h)
  obtain ⟨x6, _⟩ := box_one (U := wC) rfl (.slice aw len cw) 32
  have bxwC := below_to blC (below_one wC (.cells #[.slice aw len cw] 32))
  have zywC : (wC.alloc (.cells #[.slice aw len cw] 32)).heap.size = wC.heap.size + 1 := by simp
  have p0_3 := cell_to p0_1 bxwC
  have b_4 := below_to b_2 bxwC
  clear p0_1 b_2
  clear how blC bxwC
  go_wp2_with fail
  generalize wC.alloc (.cells #[.slice aw len cw] 32) = Y0 at *
  obtain ⟨bw, hbw⟩ : ∃ b, wC.heap.size = b := ⟨_, rfl⟩
  rw [hbw] at x6 zywC zzwC xw ⊢
  clear hbw
  refine (HTA.out _ b_4).mono ?_
  rintro e w4 ⟨ax, cx, rfl, how4, blw4⟩
  have zzw4 := blw4.size
  have KX := Lib.hid (own_below how4 (below_one w4 (.cells #[.slice ax n cx] 32)))
  have xx := Lib.hid (fun p (h : (Value.slice ax n cx).ownBlock = some p) => own_block_lt how4 h)
  obtain ⟨x8, _⟩ := box_one (U := w4) rfl (.slice ax n cx) 32
  have bxw4 := below_to blw4 (below_one w4 (.cells #[.slice ax n cx] 32))
  have zyw4 : (w4.alloc (.cells #[.slice ax n cx] 32)).heap.size = w4.heap.size + 1 := by simp
  have p0_5 := cell_to p0_3 bxw4
  have x6_6 := cell_to x6 bxw4
  have OW_7 := Lib.hid (own_below OW.out bxw4)
  have b_8 := below_to b_4 bxw4
  clear p0_3 x6 OW b_4
  clear how4 blw4 bxw4
  go_wp2_with fail
  generalize w4.alloc (.cells #[.slice ax n cx] 32) = X at *
  obtain ⟨bx, hbx⟩ : ∃ b, w4.heap.size = b := ⟨_, rfl⟩
  rw [hbx] at x8 zyw4 zzw4 xx ⊢
  clear hbx
  refine (HI.out _ _ _ (own_nil KX.out) (own_hs KX.out)).mono ?_
  rintro e w6 ⟨ag, cg, rfl, hog, bl6⟩
  have zzw6 := bl6.size
  have OG := Lib.hid (own_below hog (below_one w6 (.cells #[.slice ag len cg] 32)))
  have xg := Lib.hid (fun p (h : (Value.slice ag len cg).ownBlock = some p) => own_block_lt hog h)
  obtain ⟨x10, _⟩ := box_one (U := w6) rfl (.slice ag len cg) 32
  have bxw6 := below_to bl6 (below_one w6 (.cells #[.slice ag len cg] 32))
  have zyw6 : (w6.alloc (.cells #[.slice ag len cg] 32)).heap.size = w6.heap.size + 1 := by simp
  have p0_9 := cell_to p0_5 bxw6
  have x6_10 := cell_to x6_6 bxw6
  have x8_11 := cell_to x8 bxw6
  have OW_12 := Lib.hid (own_below OW_7.out bxw6)
  have KX_13 := Lib.hid (own_below KX.out bxw6)
  have b_14 := below_to b_8 bxw6
  clear p0_5 x6_6 x8 OW_7 KX b_8
  clear hog bl6 bxw6
  go_wp2_with fail
  generalize w6.alloc (.cells #[.slice ag len cg] 32) = Z at *
  obtain ⟨bg, hbg⟩ : ∃ b, w6.heap.size = b := ⟨_, rfl⟩
  rw [hbg] at x10 zyw6 zzw6 xg ⊢
  clear hbg
  refine (HER.out _ _ _ _ _ (own_hs OG.out) (own_hs OW_12.out)).mono ?_
  rintro e w7 ⟨rfl, blw7⟩
  have zzw7 := blw7.size
  have p0_15 := cell_to p0_9 blw7
  have x6_16 := cell_to x6_10 blw7
  have x8_17 := cell_to x8_11 blw7
  have x10_18 := cell_to x10 blw7
  have OW_19 := Lib.hid (own_below OW_12.out blw7)
  have KX_20 := Lib.hid (own_below KX_13.out blw7)
  have OG_21 := Lib.hid (own_below OG.out blw7)
  have b_22 := below_to b_14 blw7
  clear p0_9 x6_10 x8_11 x10 OW_12 KX_13 OG b_14
  clear blw7
  go_wp2
  go_region_held3 (fun w' => w'.cell? ⟨bx, 0, none⟩ = some (.slice ax n cx) ∧ w'.cell? ⟨w.heap.size, 0, none⟩ = some (.slice a n ca))
    ((refine twoc x8_17 p0_15 ?_; repeat (first | exact Below.refl _ _ | refine below_drw ?_ | refine below_to ?_ (by assumption))))
    (first | (go_at_call 15; (with_reducible refine (HTA.out _ ?_).mono ?_); (focus (repeat (first | exact b_22 | refine below_drw ?_ | refine below_to ?_ (by assumption)))); rintro e w20 ⟨ao20, cp20, rfl, ho20, bl20⟩) | (go_at_call 18; (with_reducible refine (HEA.out _ _ _ _ _ ?_ ?_).mono ?_); (focus ((refine (own_hs KX_20.out).below ?_); repeat (first | exact Below.refl _ _ | refine below_drw ?_ | refine below_to ?_ (by assumption)))); (focus (exact own_hs ho20)); rintro e w20' ⟨rfl, bl20'⟩))
  have blj20 : Below w7.heap.size w7 w20' := below_to (below_to (below_drw (Below.refl _ _)) bl20) bl20'
  have zz20 := blj20.size
  have p0_23 := cell_to p0_15 blj20
  have x6_24 := cell_to x6_16 blj20
  have x8_25 := cell_to x8_17 blj20
  have x10_26 := cell_to x10_18 blj20
  have OW_27 := Lib.hid (own_below OW_19.out blj20)
  have KX_28 := Lib.hid (own_below KX_20.out blj20)
  have OG_29 := Lib.hid (own_below OG_21.out blj20)
  have b_30 := below_to b_22 blj20
  clear p0_15 x6_16 x8_17 x10_18 OW_19 KX_20 OG_21 b_22
  clear bl20 bl20' blj20 ho20
  go_wp2_with fail
  refine (mark_region3 _ n Y0.heap.size ps 1 w20' (by omega) (by omega) (by omega) KX_28.out).mono ?_
  rintro e wa ⟨rfl, hgA⟩
  have bwA : Below Y0.heap.size w20' wa := grown_below KX_28.out (by omega) hgA
  have p0_31 := cell_far p0_23 hgA (fun h => by have := (xx.out _ h.symm).1; have := (xx.out _ h.symm).2; have := block_lt_of_cell p0_23; simp only at *; omega)
  have x6_32 := cell_far x6_24 hgA (fun h => by have := (xx.out _ h.symm).1; have := (xx.out _ h.symm).2; have := block_lt_of_cell x6_24; simp only at *; omega)
  have x10_33 := cell_far x10_26 hgA (fun h => by have := (xx.out _ h.symm).1; have := (xx.out _ h.symm).2; have := block_lt_of_cell x10_26; simp only at *; omega)
  have OW_34 := Lib.hid (own_grow OW_27.out hgA (fun p hp e => by have := (xw.out p hp).1; have := (xw.out p hp).2; have := (xx.out p e.symm).1; have := (xx.out p e.symm).2; omega))
  have OG_35 := Lib.hid (own_grow OG_29.out hgA (fun p hp e => by have := (xg.out p hp).1; have := (xg.out p hp).2; have := (xx.out p e.symm).1; have := (xx.out p e.symm).2; omega))
  have ba : Below w.heap.size w wa := b_30.trans (bwA.mono (by omega))
  have zA := bwA.size
  have zA' := hgA.size
  clear p0_23 x6_24 x8_25 x10_26 OW_27 KX_28 OG_29 b_30 hgA bwA
  have hk1 : ¬ ((3 * (n : Int) + 1) < 0) := by omega
  go_wp2_with fail
  refine (HER.out _ _ _ _ _ (own_hs OG_35.out) (own_hs OW_34.out)).mono ?_
  rintro e w8 ⟨rfl, blw8⟩
  have zzw8 := blw8.size
  have p0_36 := cell_to p0_31 blw8
  have x6_37 := cell_to x6_32 blw8
  have x10_38 := cell_to x10_33 blw8
  have OW_39 := Lib.hid (own_below OW_34.out blw8)
  have OG_40 := Lib.hid (own_below OG_35.out blw8)
  have b_41 := below_to ba blw8
  clear p0_31 x6_32 x10_33 OW_34 OG_35 ba
  clear blw8
  go_wp2_with fail
  refine (mark_region2 _ len X.heap.size L w8 (by omega) OG_40.out).mono ?_
  rintro e we ⟨rfl, hoE, hgE⟩
  have bwE : Below X.heap.size w8 we := grown_below OG_40.out (by omega) hgE
  have p0_42 := cell_far p0_36 hgE (fun h => by have := (xg.out _ h.symm).1; have := (xg.out _ h.symm).2; have := block_lt_of_cell p0_36; simp only at *; omega)
  have x6_43 := cell_far x6_37 hgE (fun h => by have := (xg.out _ h.symm).1; have := (xg.out _ h.symm).2; have := block_lt_of_cell x6_37; simp only at *; omega)
  have x10_44 := cell_far x10_38 hgE (fun h => by have := (xg.out _ h.symm).1; have := (xg.out _ h.symm).2; have := block_lt_of_cell x10_38; simp only at *; omega)
  have OW_45 := Lib.hid (own_grow OW_39.out hgE (fun p hp e => by have := (xw.out p hp).1; have := (xw.out p hp).2; have := (xg.out p e.symm).1; have := (xg.out p e.symm).2; omega))
  have OG' := Lib.hid hoE
  have be : Below w.heap.size w we := b_41.trans (bwE.mono (by omega))
  have zE' := hgE.size
  clear p0_36 x6_37 x10_38 OW_39 OG_40 b_41 hgE bwE hoE
  go_wp2_with fail
  refine (held_region ag len cg we (by omega) (own_hs OG'.out)).mono ?_
  rintro e w9 ⟨rfl, blw9⟩
  have zzw9 := blw9.size
  have p0_46 := cell_to p0_42 blw9
  have x6_47 := cell_to x6_43 blw9
  have x10_48 := cell_to x10_44 blw9
  have OW_49 := Lib.hid (own_below OW_45.out blw9)
  have OG_50 := Lib.hid (own_below OG'.out blw9)
  have b_51 := below_to be blw9
  clear p0_42 x6_43 x10_44 OW_45 OG' be
  clear blw9
  have hk2 : ¬ ((3 * (len : Int) + 1) < 0) := by omega
  go_wp2_with fail
  refine (HTA.out _ b_51).mono ?_
  rintro e wB ⟨aB, cB, rfl, hoB, blB⟩
  have HoB := Lib.hid hoB
  clear hoB
  have p0_52 := cell_to p0_46 blB
  have x6_53 := cell_to x6_47 blB
  have x10_54 := cell_to x10_48 blB
  have OW_55 := Lib.hid (own_below OW_49.out blB)
  have OG_56 := Lib.hid (own_below OG_50.out blB)
  have b_57 := below_to b_51 blB
  clear p0_46 x6_47 x10_48 OW_49 OG_50 b_51
  clear blB
  go_wp2_with fail
  refine (HI.out _ _ _ (own_nil HoB.out) (own_hs HoB.out)).mono ?_
  rintro e wD ⟨ah, ch, rfl, hoh, blD⟩
  clear HoB
  have zzwD := blD.size
  have OH := Lib.hid (own_below hoh (below_one wD (.cells #[.slice ah len ch] 32)))
  have xh := Lib.hid (fun p (h : (Value.slice ah len ch).ownBlock = some p) => own_block_lt hoh h)
  obtain ⟨x11, _⟩ := box_one (U := wD) rfl (.slice ah len ch) 32
  have bxwD := below_to blD (below_one wD (.cells #[.slice ah len ch] 32))
  have zywD : (wD.alloc (.cells #[.slice ah len ch] 32)).heap.size = wD.heap.size + 1 := by simp
  have p0_58 := cell_to p0_52 bxwD
  have x6_59 := cell_to x6_53 bxwD
  have x10_60 := cell_to x10_54 bxwD
  have OW_61 := Lib.hid (own_below OW_55.out bxwD)
  have OG_62 := Lib.hid (own_below OG_56.out bxwD)
  have b_63 := below_to b_57 bxwD
  clear p0_52 x6_53 x10_54 OW_55 OG_56 b_57
  clear hoh blD bxwD
  go_wp2_with fail
  generalize wD.alloc (.cells #[.slice ah len ch] 32) = Y1 at *
  obtain ⟨bh, hbh⟩ : ∃ b, wD.heap.size = b := ⟨_, rfl⟩
  rw [hbh] at x11 zywD zzwD xh ⊢
  clear hbh
  refine (HER.out _ _ _ _ _ (own_hs OH.out) (own_hs OW_61.out)).mono ?_
  rintro e wy ⟨rfl, bly⟩
  have p0_64 := cell_to p0_58 bly
  have x6_65 := cell_to x6_59 bly
  have x10_66 := cell_to x10_60 bly
  have x11_67 := cell_to x11 bly
  have OW_68 := Lib.hid (own_below OW_61.out bly)
  have OG_69 := Lib.hid (own_below OG_62.out bly)
  have OH_70 := Lib.hid (own_below OH.out bly)
  have b_71 := below_to b_63 bly
  clear p0_58 x6_59 x10_60 x11 OW_61 OG_62 OH b_63
  clear bly
  go_wp2_with fail
  refine (held_region ag len cg wy (by omega) (own_hs OG_69.out)).mono ?_
  rintro e wt ⟨rfl, blt⟩
  have b22 := below_to b_71 blt
  clear blt
  go_wp2
  go_ret
  exact ⟨rfl, b22⟩
set_option maxRecDepth 100000 in
set_option maxHeartbeats 1600000 in
theorem law_grw2 (a : Option Addr) (n ca : Nat) (ps : List H3) (bx : Int) (cy : Int) (lo : Int) (hi : Int) (wbx : (Lit.int .i64 bx).wf = true) (wcy : (Lit.int .i64 cy).wf = true) (wlo : (Lit.int .i64 lo).wf = true) (whi : (Lit.int .i64 hi).wf = true) (w : World) (hl : ps.length = n) (hn : n ≤ maxLen) (h64 : ∀ h ∈ ps, In64 h) (hA : HsAt w a ps) :
    Calls Try.prog 4 #[.agg #[.slice a n ca], .int .i64 bx, .int .i64 cy, .int .i64 lo, .int .i64 hi] w fun e w' => e = .returned (.bool true) ∧ Below w.heap.size w w' := by
  by_cases hle : (n : Int) ≤ 1048576
  · exact law_grw a n ca ps bx cy lo hi wbx wcy wlo whi w hl hn h64 hA hle
  · have HZA := Lib.hid (fun V => sz_region a n ca V hn 1048576 (by omega) (by omega) (-1) (by rw [if_neg hle]))
    clear hn hA hl h64 hle
    go_enter Try.func4, Try.ntmps4
    go_wp2_with fail
    have b0 := below_one w (.cells #[.slice a n ca] 24)
    generalize w.alloc (.cells #[.slice a n ca] 24) = V at *
    refine (HZA.out _).mono ?_
    rintro e w1 ⟨rfl, bl1⟩
    have b1 := below_to b0 bl1
    go_wp2
    go_ret
    exact ⟨rfl, b1⟩
end Go.Proofs.Ytefafkainfhhkaa
