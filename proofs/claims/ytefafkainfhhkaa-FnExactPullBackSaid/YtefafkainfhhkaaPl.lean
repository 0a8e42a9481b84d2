/- The walk of the law of PullBack. -/
import Derived.Test.YtefafkainfhhkaaPe
import Derived.Test.YtefafkainfhhkaaMn
namespace Go.Proofs.Ytefafkainfhhkaa
open Go.RowKit
open Geo (H3)

set_option maxRecDepth 100000 in
set_option maxHeartbeats 6400000 in
theorem law_pb (a : Option Addr) (n ca : Nat) (ps : List H3) (am : Option Addr) (nm cm : Nat) (zs : List Int) (q : Int) (wq : (Lit.int .i64 q).wf = true) (w : World) (hl : ps.length = n) (hn : n ≤ maxLen) (h64 : ∀ h ∈ ps, In64 h) (hA : HsAt w a ps) (hlm : zs.length = nm) (_hnm : nm ≤ maxLen) (_hzi : ∀ z ∈ zs, (Lit.int .i64 z).wf = true) (hM : IsAt w am zs) (hle : (n : Int) ≤ 1048576) (hlz : nm ≤ 1048576) :
    Calls Try.prog 5 #[.agg #[.slice a n ca], .slice am nm cm, .int .i64 q] w fun e w' => e = .returned (.bool true) ∧ Below w.heap.size w w' := by
  have iq := bounds_i64 wq
  have HTA := Lib.hid (fun V (h : Below w.heap.size w V) => to_region2 a n ca ps V hl (by omega) (hA.below h))
  have HEA := Lib.hid (fun V a1 a2 c1 c2 (h1 : HsAt V a1 ps) (h2 : HsAt V a2 ps) => eq_region a1 a2 n c1 c2 ps V hl (by omega) h1 h2)
  have hgt : ¬ ((1048576 : Int) < (nm : Int)) := by omega
  have HZT := Lib.hid (fun V (h : Below w.heap.size w V) => to_ints am nm cm zs V hlm hlz (hM.below h))
  have HZE := Lib.hid (fun V a1 a2 c1 c2 (h1 : IsAt V a1 zs) (h2 : IsAt V a2 zs) => eq_ints a1 a2 nm c1 c2 zs V hlm hlz h1 h2)
  have HZA := Lib.hid (fun V => sz_region a n ca V hn 1048576 (by omega) (by omega) (1048576 - n) (by rw [if_pos (by omega)]))
  have HS := Lib.hid (fun V a1 c1 az cz (h0 : a1 = none → n = 0 ∧ c1 = 0) (h1 : HsAt V a1 ps) (h2 : IsAt V az zs) => spec_pb a1 n c1 ps az nm cz zs q V hl (by omega) h64 h0 hlm h1 h2)
  have HI := Lib.hid (fun V a1 c1 az cz (h1 : HsAt V a1 ps) (h2 : IsAt V az zs) => impl_pb a1 n c1 ps az nm cz zs q V hl (by omega) h64 hlm h1 h2)
  have hL : (pbkL ps zs q).length ≤ 40 := pbk_len ps zs q
  have HER := Lib.hid (fun V a1 a2 c1 c2 (h1 : HsAt V a1 (pbkL ps zs q)) (h2 : HsAt V a2 (pbkL ps zs q)) => eq_region a1 a2 (pbkL ps zs q).length c1 c2 (pbkL ps zs q) V rfl (by omega) h1 h2)
  unfold AnsR at HS HI
  generalize pbkL ps zs q = L at *
  generalize pbkB ps zs q = R at *
  generalize L.length = len at *
  clear hn hA hl h64 hlm hM hlz wq
  go_enter Try.func5, Try.ntmps5
  go_wp2_with fail
  have b0 := below_one w (.cells #[.slice a n ca] 24)
  have q0 : (w.alloc (.cells #[.slice a n ca] 24)).cell? ⟨w.heap.size, 0, none⟩ = some (.slice a n ca) := by simp
  generalize w.alloc (.cells #[.slice a n ca] 24) = V at *
  refine (HZA.out _).mono ?_
  rintro e w1 ⟨rfl, bl1⟩
  have b1 := below_to b0 bl1
  have p0 := cell_to q0 bl1
  clear bl1 b0 q0
  have zV : w.heap.size < w1.heap.size := block_lt_of_cell p0
  have hz1 : ¬ ((1048576 - (n : Int)) < 0) := by omega
  go_wp2_with fail
  refine (HTA.out _ b1).mono ?_
  rintro e wA ⟨aA, cA, rfl, hoA, blA⟩
  have HoA := Lib.hid hoA
  clear hoA
  have p0_1 := cell_to p0 blA
  have b_2 := below_to b1 blA
  clear p0 b1
  have zA0 := blA.size
  clear blA
  go_wp2_with fail
  refine (HZT.out _ b_2).mono ?_
  rintro e wZ ⟨azA, czA, rfl, hozA, blZ⟩
  have zZ0 := blZ.size
  have HozA := Lib.hid hozA
  have HoB0 := Lib.hid (own_below HoA.out blZ)
  clear hozA HoA
  have p0_3 := cell_to p0_1 blZ
  have b_4 := below_to b_2 blZ
  clear p0_1 b_2
  clear blZ
  go_wp2_with fail
  refine (HS.out _ _ _ _ _ (own_nil HoB0.out) (own_hs HoB0.out) (own_ints HozA.out)).mono ?_
  rintro e wC ⟨aw, cw, rfl, how, blC⟩
  clear HoB0 HozA
  have zzwC := blC.size
  have OW := Lib.hid (own_below how (below_one wC (.cells #[.slice aw len cw] 32)))
  have xw := Lib.hid (fun p (h : (Value.slice aw len cw).ownBlock = some p) => own_block_lt how h)
  obtain ⟨x6, _⟩ := box_one (U := wC) rfl (.slice aw len cw) 32
  have bxwC := below_to blC (below_one wC (.cells #[.slice aw len cw] 32))
  have zywC : (wC.alloc (.cells #[.slice aw len cw] 32)).heap.size = wC.heap.size + 1 := by simp
  have p0_5 := cell_to p0_3 bxwC
  have b_6 := below_to b_4 bxwC
  clear p0_3 b_4
  clear how blC bxwC
  go_wp2_with fail
  generalize wC.alloc (.cells #[.slice aw len cw] 32) = Y0 at *
  obtain ⟨bw, hbw⟩ : ∃ b, wC.heap.size = b := ⟨_, rfl⟩
  rw [hbw] at x6 zywC zzwC xw ⊢
  clear hbw
  refine (HTA.out _ b_6).mono ?_
  rintro e w4 ⟨ax, cx, rfl, how4, blw4⟩
  have zzw4 := blw4.size
  have KX := Lib.hid (own_below how4 (below_one w4 (.cells #[.slice ax n cx] 32)))
  have xx := Lib.hid (fun p (h : (Value.slice ax n cx).ownBlock = some p) => own_block_lt how4 h)
  obtain ⟨x8, _⟩ := box_one (U := w4) rfl (.slice ax n cx) 32
  have bxw4 := below_to blw4 (below_one w4 (.cells #[.slice ax n cx] 32))
  have zyw4 : (w4.alloc (.cells #[.slice ax n cx] 32)).heap.size = w4.heap.size + 1 := by simp
  have p0_7 := cell_to p0_5 bxw4
  have x6_8 := cell_to x6 bxw4
  have OW_9 := Lib.hid (own_below OW.out bxw4)
  have b_10 := below_to b_6 bxw4
  clear p0_5 x6 OW b_6
  clear how4 blw4 bxw4
  go_wp2_with fail
  generalize w4.alloc (.cells #[.slice ax n cx] 32) = X at *
  obtain ⟨bx, hbx⟩ : ∃ b, w4.heap.size = b := ⟨_, rfl⟩
  rw [hbx] at x8 zyw4 zzw4 xx ⊢
  clear hbx
  refine (HZT.out _ b_10).mono ?_
  rintro e wz1 ⟨az, cz, rfl, hoz, blz1⟩
  have zwz1 := blz1.size
  have KZ := Lib.hid hoz
  have xz := Lib.hid (fun p (h : (Value.slice az nm cz).ownBlock = some p) => own_block_lt hoz h)
  have p0_11 := cell_to p0_7 blz1
  have x6_12 := cell_to x6_8 blz1
  have x8_13 := cell_to x8 blz1
  have OW_14 := Lib.hid (own_below OW_9.out blz1)
  have KX_15 := Lib.hid (own_below KX.out blz1)
  have b_16 := below_to b_10 blz1
  clear p0_7 x6_8 x8 OW_9 KX b_10
  clear blz1 hoz
  go_wp2_with fail
  refine (HI.out _ _ _ _ _ (own_hs KX_15.out) (own_ints KZ.out)).mono ?_
  rintro e w6 ⟨ag, cg, rfl, hog, bl6⟩
  have zzw6 := bl6.size
  have OG := Lib.hid (own_below hog (below_one w6 (.cells #[.slice ag len cg] 32)))
  have xg := Lib.hid (fun p (h : (Value.slice ag len cg).ownBlock = some p) => own_block_lt hog h)
  obtain ⟨x10, _⟩ := box_one (U := w6) rfl (.slice ag len cg) 32
  have bxw6 := below_to bl6 (below_one w6 (.cells #[.slice ag len cg] 32))
  have zyw6 : (w6.alloc (.cells #[.slice ag len cg] 32)).heap.size = w6.heap.size + 1 := by simp
  have p0_17 := cell_to p0_11 bxw6
  have x6_18 := cell_to x6_12 bxw6
  have x8_19 := cell_to x8_13 bxw6
  have OW_20 := Lib.hid (own_below OW_14.out bxw6)
  have KX_21 := Lib.hid (own_below KX_15.out bxw6)
  have KZ_22 := Lib.hid (own_below KZ.out bxw6)
  have b_23 := below_to b_16 bxw6
  clear p0_11 x6_12 x8_13 OW_14 KX_15 KZ b_16
  clear hog bl6 bxw6
  go_wp2_with fail
  generalize w6.alloc (.cells #[.slice ag len cg] 32) = Z at *
  obtain ⟨bg, hbg⟩ : ∃ b, w6.heap.size = b := ⟨_, rfl⟩
  rw [hbg] at x10 zyw6 zzw6 xg ⊢
  clear hbg
  refine (HER.out _ _ _ _ _ (own_hs OG.out) (own_hs OW_20.out)).mono ?_
  rintro e w7 ⟨rfl, blw7⟩
  have zzw7 := blw7.size
  have p0_24 := cell_to p0_17 blw7
  have x6_25 := cell_to x6_18 blw7
  have x8_26 := cell_to x8_19 blw7
  have x10_27 := cell_to x10 blw7
  have OW_28 := Lib.hid (own_below OW_20.out blw7)
  have KX_29 := Lib.hid (own_below KX_21.out blw7)
  have KZ_30 := Lib.hid (own_below KZ_22.out blw7)
  have OG_31 := Lib.hid (own_below OG.out blw7)
  have b_32 := below_to b_23 blw7
  clear p0_17 x6_18 x8_19 x10 OW_20 KX_21 KZ_22 OG b_23
  clear blw7
  go_wp2
  go_region_held3 (fun w' => w'.cell? ⟨bx, 0, none⟩ = some (.slice ax n cx) ∧ w'.cell? ⟨w.heap.size, 0, none⟩ = some (.slice a n ca))
    ((refine twoc x8_26 p0_24 ?_; repeat (first | exact Below.refl _ _ | refine below_drw ?_ | refine below_to ?_ (by assumption))))
    (first | (go_at_call 15; (with_reducible refine (HTA.out _ ?_).mono ?_); (focus (repeat (first | exact b_32 | refine below_drw ?_ | refine below_to ?_ (by assumption)))); rintro e w20 ⟨ao20, cp20, rfl, ho20, bl20⟩) | (go_at_call 18; (with_reducible refine (HEA.out _ _ _ _ _ ?_ ?_).mono ?_); (focus ((refine (own_hs KX_29.out).below ?_); repeat (first | exact Below.refl _ _ | refine below_drw ?_ | refine below_to ?_ (by assumption)))); (focus (exact own_hs ho20)); rintro e w20' ⟨rfl, bl20'⟩))
  have blj20 : Below w7.heap.size w7 w20' := below_to (below_to (below_drw (Below.refl _ _)) bl20) bl20'
  have zz20 := blj20.size
  have p0_33 := cell_to p0_24 blj20
  have x6_34 := cell_to x6_25 blj20
  have x8_35 := cell_to x8_26 blj20
  have x10_36 := cell_to x10_27 blj20
  have OW_37 := Lib.hid (own_below OW_28.out blj20)
  have KX_38 := Lib.hid (own_below KX_29.out blj20)
  have KZ_39 := Lib.hid (own_below KZ_30.out blj20)
  have OG_40 := Lib.hid (own_below OG_31.out blj20)
  have b_41 := below_to b_32 blj20
  clear p0_24 x6_25 x8_26 x10_27 OW_28 KX_29 KZ_30 OG_31 b_32
  clear bl20 bl20' blj20 ho20
  go_wp2_with fail
  refine (HZT.out _ b_41).mono ?_
  rintro e wz2 ⟨az2, cz2, rfl, hoz2, blz2⟩
  have HOZ2 := Lib.hid hoz2
  have zwz2 := blz2.size
  have p0_42 := cell_to p0_33 blz2
  have x6_43 := cell_to x6_34 blz2
  have x8_44 := cell_to x8_35 blz2
  have x10_45 := cell_to x10_36 blz2
  have OW_46 := Lib.hid (own_below OW_37.out blz2)
  have KX_47 := Lib.hid (own_below KX_38.out blz2)
  have KZ_48 := Lib.hid (own_below KZ_39.out blz2)
  have OG_49 := Lib.hid (own_below OG_40.out blz2)
  have b_50 := below_to b_41 blz2
  clear p0_33 x6_34 x8_35 x10_36 OW_37 KX_38 KZ_39 OG_40 b_41
  clear blz2 hoz2
  go_wp2_with fail
  refine (HZE.out _ _ _ _ _ (own_ints KZ_48.out) (own_ints HOZ2.out)).mono ?_
  rintro e wz3 ⟨rfl, blz3⟩
  have zwz3 := blz3.size
  have p0_51 := cell_to p0_42 blz3
  have x6_52 := cell_to x6_43 blz3
  have x8_53 := cell_to x8_44 blz3
  have x10_54 := cell_to x10_45 blz3
  have OW_55 := Lib.hid (own_below OW_46.out blz3)
  have KX_56 := Lib.hid (own_below KX_47.out blz3)
  have KZ_57 := Lib.hid (own_below KZ_48.out blz3)
  have OG_58 := Lib.hid (own_below OG_49.out blz3)
  have b_59 := below_to b_50 blz3
  clear p0_42 x6_43 x8_44 x10_45 OW_46 KX_47 KZ_48 OG_49 b_50
  clear blz3 HOZ2
  go_wp2_with fail
  refine (mark_region3 _ n Y0.heap.size ps 1 wz3 (by omega) (by omega) (by omega) KX_56.out).mono ?_
  rintro e wa ⟨rfl, hgA⟩
  have bwA : Below Y0.heap.size wz3 wa := grown_below KX_56.out (by omega) hgA
  have p0_60 := cell_far p0_51 hgA (fun h => by have := (xx.out _ h.symm).1; have := (xx.out _ h.symm).2; have := block_lt_of_cell p0_51; simp only at *; omega)
  have x6_61 := cell_far x6_52 hgA (fun h => by have := (xx.out _ h.symm).1; have := (xx.out _ h.symm).2; have := block_lt_of_cell x6_52; simp only at *; omega)
  have x10_62 := cell_far x10_54 hgA (fun h => by have := (xx.out _ h.symm).1; have := (xx.out _ h.symm).2; have := block_lt_of_cell x10_54; simp only at *; omega)
  have OW_63 := Lib.hid (own_grow OW_55.out hgA (fun p hp e => by have := (xw.out p hp).1; have := (xw.out p hp).2; have := (xx.out p e.symm).1; have := (xx.out p e.symm).2; omega))
  have KZ_64 := Lib.hid (own_grow KZ_57.out hgA (fun p hp e => by have := (xz.out p hp).1; have := (xz.out p hp).2; have := (xx.out p e.symm).1; have := (xx.out p e.symm).2; omega))
  have OG_65 := Lib.hid (own_grow OG_58.out hgA (fun p hp e => by have := (xg.out p hp).1; have := (xg.out p hp).2; have := (xx.out p e.symm).1; have := (xx.out p e.symm).2; omega))
  have ba : Below w.heap.size w wa := b_59.trans (bwA.mono (by omega))
  have zA := bwA.size
  have zA' := hgA.size
  clear p0_51 x6_52 x8_53 x10_54 OW_55 KX_56 KZ_57 OG_58 b_59 hgA bwA
  go_wp2_with fail
  refine (mark_ints _ nm X.heap.size _ (3 * n + 1) wa (by omega) (by omega) (by omega) KZ_64.out).mono ?_
  rintro e wb ⟨rfl, hgB⟩
  have bwB : Below X.heap.size wa wb := grown_below KZ_64.out (by omega) hgB
  have p0_66 := cell_far p0_60 hgB (fun h => by have := (xz.out _ h.symm).1; have := (xz.out _ h.symm).2; have := block_lt_of_cell p0_60; simp only at *; omega)
  have x6_67 := cell_far x6_61 hgB (fun h => by have := (xz.out _ h.symm).1; have := (xz.out _ h.symm).2; have := block_lt_of_cell x6_61; simp only at *; omega)
  have x10_68 := cell_far x10_62 hgB (fun h => by have := (xz.out _ h.symm).1; have := (xz.out _ h.symm).2; have := block_lt_of_cell x10_62; simp only at *; omega)
  have OW_69 := Lib.hid (own_grow OW_63.out hgB (fun p hp e => by have := (xw.out p hp).1; have := (xw.out p hp).2; have := (xz.out p e.symm).1; have := (xz.out p e.symm).2; omega))
  have OG_70 := Lib.hid (own_grow OG_65.out hgB (fun p hp e => by have := (xg.out p hp).1; have := (xg.out p hp).2; have := (xz.out p e.symm).1; have := (xz.out p e.symm).2; omega))
  have bb : Below w.heap.size w wb := ba.trans (bwB.mono (by omega))
  have zB := bwB.size
  have zB' := hgB.size
  clear p0_60 x6_61 x10_62 OW_63 KZ_64 OG_65 ba hgB bwB
  have hk1 : ¬ ((nm : Int) + (3 * (n : Int) + 1) < 0) := by omega
  go_wp2_with fail
  refine (HER.out _ _ _ _ _ (own_hs OG_70.out) (own_hs OW_69.out)).mono ?_
  rintro e w8 ⟨rfl, blw8⟩
  have zzw8 := blw8.size
  have p0_71 := cell_to p0_66 blw8
  have x6_72 := cell_to x6_67 blw8
  have x10_73 := cell_to x10_68 blw8
  have OW_74 := Lib.hid (own_below OW_69.out blw8)
  have OG_75 := Lib.hid (own_below OG_70.out blw8)
  have b_76 := below_to bb blw8
  clear p0_66 x6_67 x10_68 OW_69 OG_70 bb
  clear blw8
  go_wp2_with fail
  refine (mark_region2 _ len wz1.heap.size L w8 (by omega) OG_75.out).mono ?_
  rintro e we ⟨rfl, hoE, hgE⟩
  have bwE : Below wz1.heap.size w8 we := grown_below OG_75.out (by omega) hgE
  have p0_77 := cell_far p0_71 hgE (fun h => by have := (xg.out _ h.symm).1; have := (xg.out _ h.symm).2; have := block_lt_of_cell p0_71; simp only at *; omega)
  have x6_78 := cell_far x6_72 hgE (fun h => by have := (xg.out _ h.symm).1; have := (xg.out _ h.symm).2; have := block_lt_of_cell x6_72; simp only at *; omega)
  have x10_79 := cell_far x10_73 hgE (fun h => by have := (xg.out _ h.symm).1; have := (xg.out _ h.symm).2; have := block_lt_of_cell x10_73; simp only at *; omega)
  have OW_80 := Lib.hid (own_grow OW_74.out hgE (fun p hp e => by have := (xw.out p hp).1; have := (xw.out p hp).2; have := (xg.out p e.symm).1; have := (xg.out p e.symm).2; omega))
  have OG' := Lib.hid hoE
  have be : Below w.heap.size w we := b_76.trans (bwE.mono (by omega))
  have zE' := hgE.size
  clear p0_71 x6_72 x10_73 OW_74 OG_75 b_76 hgE bwE hoE
  go_wp2_with fail
  refine (held_region ag len cg we (by omega) (own_hs OG'.out)).mono ?_
  rintro e w9 ⟨rfl, blw9⟩
  have zzw9 := blw9.size
  have p0_81 := cell_to p0_77 blw9
  have x6_82 := cell_to x6_78 blw9
  have x10_83 := cell_to x10_79 blw9
  have OW_84 := Lib.hid (own_below OW_80.out blw9)
  have OG_85 := Lib.hid (own_below OG'.out blw9)
  have b_86 := below_to be blw9
  clear p0_77 x6_78 x10_79 OW_80 OG' be
  clear blw9
  have hk2 : ¬ ((3 * (len : Int) + 1) < 0) := by omega
  go_wp2_with fail
  refine (HTA.out _ b_86).mono ?_
  rintro e wB ⟨aB, cB, rfl, hoB, blB⟩
  have HoB := Lib.hid hoB
  clear hoB
  have p0_87 := cell_to p0_81 blB
  have x6_88 := cell_to x6_82 blB
  have x10_89 := cell_to x10_83 blB
  have OW_90 := Lib.hid (own_below OW_84.out blB)
  have OG_91 := Lib.hid (own_below OG_85.out blB)
  have b_92 := below_to b_86 blB
  clear p0_81 x6_82 x10_83 OW_84 OG_85 b_86
  clear blB
  go_wp2_with fail
  refine (HZT.out _ b_92).mono ?_
  rintro e wz4 ⟨az4, cz4, rfl, hoz4, blz4⟩
  have HOZ4 := Lib.hid hoz4
  have HoB2 := Lib.hid (own_below HoB.out blz4)
  have p0_93 := cell_to p0_87 blz4
  have x6_94 := cell_to x6_88 blz4
  have x10_95 := cell_to x10_89 blz4
  have OW_96 := Lib.hid (own_below OW_90.out blz4)
  have OG_97 := Lib.hid (own_below OG_91.out blz4)
  have b_98 := below_to b_92 blz4
  clear p0_87 x6_88 x10_89 OW_90 OG_91 b_92
  clear blz4 hoz4 HoB
  go_wp2_with fail
  refine (HI.out _ _ _ _ _ (own_hs HoB2.out) (own_ints HOZ4.out)).mono ?_
  rintro e wD ⟨ah, ch, rfl, hoh, blD⟩
  clear HoB2 HOZ4
  have zzwD := blD.size
  have OH := Lib.hid (own_below hoh (below_one wD (.cells #[.slice ah len ch] 32)))
  have xh := Lib.hid (fun p (h : (Value.slice ah len ch).ownBlock = some p) => own_block_lt hoh h)
  obtain ⟨x11, _⟩ := box_one (U := wD) rfl (.slice ah len ch) 32
  have bxwD := below_to blD (below_one wD (.cells #[.slice ah len ch] 32))
  have zywD : (wD.alloc (.cells #[.slice ah len ch] 32)).heap.size = wD.heap.size + 1 := by simp
  have p0_99 := cell_to p0_93 bxwD
  have x6_100 := cell_to x6_94 bxwD
  have x10_101 := cell_to x10_95 bxwD
  have OW_102 := Lib.hid (own_below OW_96.out bxwD)
  have OG_103 := Lib.hid (own_below OG_97.out bxwD)
  have b_104 := below_to b_98 bxwD
  clear p0_93 x6_94 x10_95 OW_96 OG_97 b_98
  clear hoh blD bxwD
  go_wp2_with fail
  generalize wD.alloc (.cells #[.slice ah len ch] 32) = Y1 at *
  obtain ⟨bh, hbh⟩ : ∃ b, wD.heap.size = b := ⟨_, rfl⟩
  rw [hbh] at x11 zywD zzwD xh ⊢
  clear hbh
  refine (HER.out _ _ _ _ _ (own_hs OH.out) (own_hs OW_102.out)).mono ?_
  rintro e wy ⟨rfl, bly⟩
  have p0_105 := cell_to p0_99 bly
  have x6_106 := cell_to x6_100 bly
  have x10_107 := cell_to x10_101 bly
  have x11_108 := cell_to x11 bly
  have OW_109 := Lib.hid (own_below OW_102.out bly)
  have OG_110 := Lib.hid (own_below OG_103.out bly)
  have OH_111 := Lib.hid (own_below OH.out bly)
  have b_112 := below_to b_104 bly
  clear p0_99 x6_100 x10_101 x11 OW_102 OG_103 OH b_104
  clear bly
  go_wp2_with fail
  refine (held_region ag len cg wy (by omega) (own_hs OG_110.out)).mono ?_
  rintro e wt ⟨rfl, blt⟩
  have b22 := below_to b_112 blt
  clear blt
  go_wp2
  go_ret
  exact ⟨rfl, b22⟩
set_option maxRecDepth 100000 in
set_option maxHeartbeats 1600000 in
theorem law_pb2 (a : Option Addr) (n ca : Nat) (ps : List H3) (am : Option Addr) (nm cm : Nat) (zs : List Int) (q : Int) (wq : (Lit.int .i64 q).wf = true) (w : World) (hl : ps.length = n) (hn : n ≤ maxLen) (h64 : ∀ h ∈ ps, In64 h) (hA : HsAt w a ps) (hlm : zs.length = nm) (_hnm : nm ≤ maxLen) (_hzi : ∀ z ∈ zs, (Lit.int .i64 z).wf = true) (hM : IsAt w am zs) :
    Calls Try.prog 5 #[.agg #[.slice a n ca], .slice am nm cm, .int .i64 q] w fun e w' => e = .returned (.bool true) ∧ Below w.heap.size w w' := by
  rcases Nat.lt_or_ge 1048576 nm with hlz | hlz
  · have hgt : (1048576 : Int) < (nm : Int) := by omega
    clear hn hA hl h64 hlz hlm hM
    go_enter Try.func5, Try.ntmps5
    go_wp2
    go_ret
    exact ⟨rfl, below_one _ _⟩
  by_cases hle : (n : Int) ≤ 1048576
  · exact law_pb a n ca ps am nm cm zs q wq w hl hn h64 hA hlm _hnm _hzi hM hle hlz
  · have HZA := Lib.hid (fun V => sz_region a n ca V hn 1048576 (by omega) (by omega) (-1) (by rw [if_neg hle]))
    have hgt : ¬ ((1048576 : Int) < (nm : Int)) := by omega
    clear hn hA hl h64 hle hlm hM
    go_enter Try.func5, Try.ntmps5
    go_wp2_with fail
    have b0 := below_one w (.cells #[.slice a n ca] 24)
    generalize w.alloc (.cells #[.slice a n ca] 24) = V at *
    refine (HZA.out _).mono ?_
    rintro e w1 ⟨rfl, bl1⟩
    have b1 := below_to b0 bl1
    go_wp2
    go_ret
    exact ⟨rfl, b1⟩
end Go.Proofs.Ytefafkainfhhkaa
