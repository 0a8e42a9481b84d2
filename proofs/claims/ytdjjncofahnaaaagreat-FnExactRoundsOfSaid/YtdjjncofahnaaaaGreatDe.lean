/- The walks of the laws of KeptRegion and RoundsOf. -/
import Derived.Test.YtdjjncofahnaaaaGreatDc
import Derived.Test.YtdjjncofahnaaaaGreatVb
import Derived.Test.YtdjjncofahnaaaaGreatVg
import Derived.Test.YtdjjncofahnaaaaGreatMf
namespace Go.Proofs.YtdjjncofahnaaaaGreat
open Go.RowKit
open Geo (H3)

set_option maxRecDepth 100000 in
set_option maxHeartbeats 12800000 in
theorem law_kr (am : Option Addr) (nm cm : Nat) (zs : List Int) (q bx cy lo hi : Int) (an : Option Addr) (nn cn : Nat) (ps : List H3) (al : Option Addr) (nl cl : Nat) (qs : List H3) (w : World) (h64 : R64 q bx cy lo hi ps qs) (h1 : nm ≤ maxLen) (h2 : nn ≤ maxLen) (h3 : nl ≤ maxLen) (hA : RAt w am nm zs an nn ps al nl qs) :
    Calls Tryz.prog 7 #[.agg #[.slice am nm cm, .int .i64 q, .int .i64 bx, .int .i64 cy, .int .i64 lo, .int .i64 hi, .slice an nn cn, .slice al nl cl]] w fun e w' => e = .returned (.bool true) ∧ Below w.heap.size w w' := by
  have bV := below_one w (.cells #[.slice am nm cm, .int .i64 q, .int .i64 bx, .int .i64 cy, .int .i64 lo, .int .i64 hi, .slice an nn cn, .slice al nl cl] 61)
  have K0 := blk_new w #[.slice am nm cm, .int .i64 q, .int .i64 bx, .int .i64 cy, .int .i64 lo, .int .i64 hi, .slice an nn cn, .slice al nl cl] 61 (b := w.heap.size) (by simp)
  by_cases hle : (nm : Int) + nn + nl ≤ 1048576
  · have HZ := Lib.hid (fun V => sz_room am nm cm q bx cy lo hi an nn cn al nl cl V h1 h2 h3 1048576 (by omega) (by omega) (1048576 - nm - nn - nl) (by rw [if_pos hle]))
    have HT := Lib.hid (fun V (h : Below w.heap.size w V) => to_room am nm cm zs q bx cy lo hi an nn cn ps al nl cl qs V (hA.below h) (by omega))
    have HE := Lib.hid (fun V am1 cm1 an1 cn1 al1 cl1 am2 cm2 an2 cn2 al2 cl2 (k1 : RAt V am1 nm zs an1 nn ps al1 nl qs) (k2 : RAt V am2 nm zs an2 nn ps al2 nl qs) => eq_room am1 nm cm1 zs q bx cy lo hi an1 nn cn1 ps al1 nl cl1 qs am2 cm2 an2 cn2 al2 cl2 V k1 k2 (by omega))
    have HS := Lib.hid (fun V am1 cm1 an1 cn1 al1 cl1 (k0 : RNil am1 nm cm1 an1 nn cn1 al1 nl cl1) (k1 : RAt V am1 nm zs an1 nn ps al1 nl qs) => spec_kr am1 nm cm1 zs q bx cy lo hi an1 nn cn1 ps al1 nl cl1 qs V k1 h64 (by omega) k0)
    have HI := Lib.hid (fun V am1 cm1 an1 cn1 al1 cl1 (k1 : RAt V am1 nm zs an1 nn ps al1 nl qs) => impl_kr am1 nm cm1 zs q bx cy lo hi an1 nn cn1 ps al1 nl cl1 qs V k1 h64 (by omega))
    have hL : (kgL zs q bx cy lo hi ps qs).length ≤ 40 := kgL_len.1
    have HEA := Lib.hid (fun V a1 a2 c1 c2 (k1 : HsAt V a1 (kgL zs q bx cy lo hi ps qs)) (k2 : HsAt V a2 (kgL zs q bx cy lo hi ps qs)) => eq_region a1 a2 (kgL zs q bx cy lo hi ps qs).length c1 c2 (kgL zs q bx cy lo hi ps qs) V rfl (by omega) k1 k2)
    unfold AnsR at HS HI
    generalize kgL zs q bx cy lo hi ps qs = L at *
    generalize L.length = len at *
    generalize kgB zs q bx cy lo hi ps qs = R at *
    have hz1 : ¬ (1048576 - (nm : Int) - nn - nl < 0) := by omega
    clear hA h64 h1 h2 h3
    go_enter Tryz.func7, Tryz.ntmps7
    have c0_0 := K0.c8_0
    have c0_1 := K0.c8_1
    have c0_2 := K0.c8_2
    have c0_3 := K0.c8_3
    have c0_4 := K0.c8_4
    have c0_5 := K0.c8_5
    have c0_6 := K0.c8_6
    have c0_7 := K0.c8_7
    go_wp2_with fail
    clear c0_0 c0_1 c0_2 c0_3 c0_4 c0_5 c0_6 c0_7
    generalize (w.alloc (.cells #[.slice am nm cm, .int .i64 q, .int .i64 bx, .int .i64 cy, .int .i64 lo, .int .i64 hi, .slice an nn cn, .slice al nl cl] 61)) = V at *
    refine (HZ.out _).mono ?_
    rintro e w1 ⟨rfl, bl1⟩
    have P0_1 := K0.to bl1
    have b_2 := below_to bV bl1
    clear K0 bV
    clear bl1 HZ
    have c0 := P0_1.c8_0
    have c1 := P0_1.c8_1
    have c2 := P0_1.c8_2
    have c3 := P0_1.c8_3
    have c4 := P0_1.c8_4
    have c5 := P0_1.c8_5
    have c6 := P0_1.c8_6
    have c7 := P0_1.c8_7
    go_wp2_with fail
    clear c0 c1 c2 c3 c4 c5 c6 c7
    refine (HT.out _ b_2).mono ?_
    rintro e w2 ⟨amR, cmR, anR, cnR, alR, clR, rfl, hoR, blR⟩
    have P0_3 := P0_1.to blR
    have b_4 := below_to b_2 blR
    clear P0_1 b_2
    have zR := blR.size
    clear blR
    have y0 := P0_3.lt
    go_wp2_with fail
    refine (HS.out _ _ _ _ _ _ _ hoR.nil hoR.at).mono ?_
    rintro e w3 ⟨aw, cw, rfl, hoW, blW⟩
    have bGW := below_to blW (below_one w3 (.cells #[.slice aw len cw] 26))
    have zW := blW.size
    have xW := Lib.hid (fun p (h : (Value.slice aw len cw).ownBlock = some p) => own_block_lt hoW h)
    have KW := blk_new w3 #[.slice aw len cw] 26 rfl
    have OW := Lib.hid (own_below hoW (below_one w3 (.cells #[.slice aw len cw] 26)))
    have yW : (w3.alloc (.cells #[.slice aw len cw] 26)).heap.size = w3.heap.size + 1 := by simp
    have P0_5 := P0_3.to bGW
    have b_6 := below_to b_4 bGW
    clear P0_3 b_4
    clear bGW blW hoW
    clear hoR HS
    have c0 := P0_5.c8_0
    have c1 := P0_5.c8_1
    have c2 := P0_5.c8_2
    have c3 := P0_5.c8_3
    have c4 := P0_5.c8_4
    have c5 := P0_5.c8_5
    have c6 := P0_5.c8_6
    have c7 := P0_5.c8_7
    go_wp2_with fail
    clear c0 c1 c2 c3 c4 c5 c6 c7
    generalize w3.alloc (.cells #[.slice aw len cw] 26) = W3 at *
    obtain ⟨eW, heW⟩ : ∃ b, w3.heap.size = b := ⟨_, rfl⟩
    rw [heW] at KW yW zW xW ⊢
    clear heW
    refine (HT.out _ b_6).mono ?_
    rintro e w4 ⟨am4, cm4, an4, cn4, al4, cl4, rfl, ho4, bl4⟩
    have bX := below_to bl4 (below_one w4 (.cells #[.slice am4 nm cm4, .int .i64 q, .int .i64 bx, .int .i64 cy, .int .i64 lo, .int .i64 hi, .slice an4 nn cn4, .slice al4 nl cl4] 28))
    have xr := Lib.hid ho4.rows_lt
    have z4 := bl4.size
    have KX := blk_new w4 #[.slice am4 nm cm4, .int .i64 q, .int .i64 bx, .int .i64 cy, .int .i64 lo, .int .i64 hi, .slice an4 nn cn4, .slice al4 nl cl4] 28 rfl
    have OX := Lib.hid (ho4.below (below_one w4 (.cells #[.slice am4 nm cm4, .int .i64 q, .int .i64 bx, .int .i64 cy, .int .i64 lo, .int .i64 hi, .slice an4 nn cn4, .slice al4 nl cl4] 28)))
    have y4 : (w4.alloc (.cells #[.slice am4 nm cm4, .int .i64 q, .int .i64 bx, .int .i64 cy, .int .i64 lo, .int .i64 hi, .slice an4 nn cn4, .slice al4 nl cl4] 28)).heap.size = w4.heap.size + 1 := by simp
    have P0_7 := P0_5.to bX
    have b_8 := below_to b_6 bX
    have KW_9 := KW.to bX
    have OW_10 := Lib.hid (own_below OW.out bX)
    clear P0_5 b_6 KW OW
    clear bX bl4 ho4
    have c0 := KX.c8_0
    have c1 := KX.c8_1
    have c2 := KX.c8_2
    have c3 := KX.c8_3
    have c4 := KX.c8_4
    have c5 := KX.c8_5
    have c6 := KX.c8_6
    have c7 := KX.c8_7
    go_wp2_with fail
    clear c0 c1 c2 c3 c4 c5 c6 c7
    generalize w4.alloc (.cells #[.slice am4 nm cm4, .int .i64 q, .int .i64 bx, .int .i64 cy, .int .i64 lo, .int .i64 hi, .slice an4 nn cn4, .slice al4 nl cl4] 28) = X at *
    obtain ⟨ex, hex⟩ : ∃ b, w4.heap.size = b := ⟨_, rfl⟩
    rw [hex] at KX y4 z4 xr ⊢
    clear hex
    refine (HI.out _ _ _ _ _ _ _ OX.out.at).mono ?_
    rintro e w6 ⟨ag, cg, rfl, hoG, blG⟩
    have bGG := below_to blG (below_one w6 (.cells #[.slice ag len cg] 26))
    have zG := blG.size
    have xG := Lib.hid (fun p (h : (Value.slice ag len cg).ownBlock = some p) => own_block_lt hoG h)
    have KG := blk_new w6 #[.slice ag len cg] 26 rfl
    have OG := Lib.hid (own_below hoG (below_one w6 (.cells #[.slice ag len cg] 26)))
    have yG : (w6.alloc (.cells #[.slice ag len cg] 26)).heap.size = w6.heap.size + 1 := by simp
    have P0_11 := P0_7.to bGG
    have b_12 := below_to b_8 bGG
    have KW_13 := KW_9.to bGG
    have OW_14 := Lib.hid (own_below OW_10.out bGG)
    have KX_15 := KX.to bGG
    have OX_16 := Lib.hid (OX.out.below bGG)
    clear P0_7 b_8 KW_9 OW_10 KX OX
    clear bGG blG hoG
    have c0 := KG.cell0 (i := 0) rfl
    have d0 := KW_13.cell0 (i := 0) rfl
    go_wp2_with fail
    clear c0 d0
    generalize w6.alloc (.cells #[.slice ag len cg] 26) = Z at *
    obtain ⟨eG, heG⟩ : ∃ b, w6.heap.size = b := ⟨_, rfl⟩
    rw [heG] at KG yG zG xG ⊢
    clear heG
    refine (HEA.out _ _ _ _ _ (own_hs OG.out) (own_hs OW_14.out)).mono ?_
    rintro e w7 ⟨rfl, blw7⟩
    have zw7 := blw7.size
    have P0_17 := P0_11.to blw7
    have b_18 := below_to b_12 blw7
    have KW_19 := KW_13.to blw7
    have OW_20 := Lib.hid (own_below OW_14.out blw7)
    have KX_21 := KX_15.to blw7
    have OX_22 := Lib.hid (OX_16.out.below blw7)
    have KG_23 := KG.to blw7
    have OG_24 := Lib.hid (own_below OG.out blw7)
    clear P0_11 b_12 KW_13 OW_14 KX_15 OX_16 KG OG
    clear blw7
    go_wp2
    go_region_held3 (fun w' => w'.cell? ⟨ex, 0, none⟩ = some (.slice am4 nm cm4) ∧ w'.cell? ⟨ex, 1, none⟩ = some (.int .i64 q) ∧ w'.cell? ⟨ex, 2, none⟩ = some (.int .i64 bx) ∧ w'.cell? ⟨ex, 3, none⟩ = some (.int .i64 cy) ∧ w'.cell? ⟨ex, 4, none⟩ = some (.int .i64 lo) ∧ w'.cell? ⟨ex, 5, none⟩ = some (.int .i64 hi) ∧ w'.cell? ⟨ex, 6, none⟩ = some (.slice an4 nn cn4) ∧ w'.cell? ⟨ex, 7, none⟩ = some (.slice al4 nl cl4) ∧ w'.cell? ⟨w.heap.size, 0, none⟩ = some (.slice am nm cm) ∧ w'.cell? ⟨w.heap.size, 1, none⟩ = some (.int .i64 q) ∧ w'.cell? ⟨w.heap.size, 2, none⟩ = some (.int .i64 bx) ∧ w'.cell? ⟨w.heap.size, 3, none⟩ = some (.int .i64 cy) ∧ w'.cell? ⟨w.heap.size, 4, none⟩ = some (.int .i64 lo) ∧ w'.cell? ⟨w.heap.size, 5, none⟩ = some (.int .i64 hi) ∧ w'.cell? ⟨w.heap.size, 6, none⟩ = some (.slice an nn cn) ∧ w'.cell? ⟨w.heap.size, 7, none⟩ = some (.slice al nl cl))
      ((refine room16n KX_21 P0_17 ?_; repeat (first | exact Below.refl _ _ | refine below_drw ?_ | refine below_to ?_ (by assumption))))
      (first | (go_at_call 29; (with_reducible refine (HT.out _ ?_).mono ?_); (focus (repeat (first | exact b_18 | refine below_drw ?_ | refine below_to ?_ (by assumption)))); rintro e w8 ⟨am7, cm7, an7, cn7, al7, cl7, rfl, ho8, bl8⟩) | (go_at_call 31; (with_reducible refine (HE.out _ _ _ _ _ _ _ _ _ _ _ _ _ ?_ ?_).mono ?_); (focus ((refine OX_22.out.at.below ?_); repeat (first | exact Below.refl _ _ | refine below_drw ?_ | refine below_to ?_ (by assumption)))); (focus ((refine ho8.at.below ?_); repeat (first | exact Below.refl _ _ | refine below_drw ?_ | refine below_to ?_ (by assumption)))); rintro e w9 ⟨rfl, bl9⟩))
    have blj : Below w7.heap.size w7 w9 := below_to (below_to (below_drw (Below.refl _ _)) bl8) bl9
    have z9 := blj.size
    have P0_25 := P0_17.to blj
    have b_26 := below_to b_18 blj
    have KW_27 := KW_19.to blj
    have OW_28 := Lib.hid (own_below OW_20.out blj)
    have KX_29 := KX_21.to blj
    have OX_30 := Lib.hid (OX_22.out.below blj)
    have KG_31 := KG_23.to blj
    have OG_32 := Lib.hid (own_below OG_24.out blj)
    clear P0_17 b_18 KW_19 OW_20 KX_21 OX_22 KG_23 OG_24
    clear bl8 bl9 blj ho8
    have c0 := KX_29.c8_0
    have c1 := KX_29.c8_1
    have c2 := KX_29.c8_2
    have c3 := KX_29.c8_3
    have c4 := KX_29.c8_4
    have c5 := KX_29.c8_5
    have c6 := KX_29.c8_6
    have c7 := KX_29.c8_7
    go_wp2_with fail
    clear c0 c1 c2 c3 c4 c5 c6 c7
    refine (mark_room4 am4 nm cm4 zs q bx cy lo hi an4 nn cn4 ps al4 nl cl4 qs _ 1 w9 (by omega) (by omega) (by omega) OX_30.out).mono ?_
    rintro e w12 ⟨rfl, _, g12⟩
    have b12 : Below w.heap.size w w12 := b_26.trans (Gr3.below g12 (by omega) (fun p h => by have := xr.out p (.inl h); omega) (fun p h => by have := xr.out p (.inr (.inl h)); omega) (fun p h => by have := xr.out p (.inr (.inr h)); omega))
    have z12 := g12.size
    have P0_33 := Gr3.blk g12 P0_25 (fun h => by have := xr.out _ (.inl h.symm); have := P0_25.lt; omega) (fun h => by have := xr.out _ (.inr (.inl h.symm)); have := P0_25.lt; omega) (fun h => by have := xr.out _ (.inr (.inr h.symm)); have := P0_25.lt; omega)
    have KW_34 := Gr3.blk g12 KW_27 (fun h => by have := xr.out _ (.inl h.symm); have := KW_27.lt; omega) (fun h => by have := xr.out _ (.inr (.inl h.symm)); have := KW_27.lt; omega) (fun h => by have := xr.out _ (.inr (.inr h.symm)); have := KW_27.lt; omega)
    have OW_35 := Lib.hid (Gr3.own g12 OW_28.out (fun p hp e => by have := xW.out p hp; have := xr.out p (.inl e.symm); omega) (fun p hp e => by have := xW.out p hp; have := xr.out p (.inr (.inl e.symm)); omega) (fun p hp e => by have := xW.out p hp; have := xr.out p (.inr (.inr e.symm)); omega))
    have KG_36 := Gr3.blk g12 KG_31 (fun h => by have := xr.out _ (.inl h.symm); have := KG_31.lt; omega) (fun h => by have := xr.out _ (.inr (.inl h.symm)); have := KG_31.lt; omega) (fun h => by have := xr.out _ (.inr (.inr h.symm)); have := KG_31.lt; omega)
    have OG_37 := Lib.hid (Gr3.own g12 OG_32.out (fun p hp e => by have := xG.out p hp; have := xr.out p (.inl e.symm); omega) (fun p hp e => by have := xG.out p hp; have := xr.out p (.inr (.inl e.symm)); omega) (fun p hp e => by have := xG.out p hp; have := xr.out p (.inr (.inr e.symm)); omega))
    clear P0_25 b_26 KW_27 OW_28 KX_29 OX_30 KG_31 OG_32
    clear g12
    have hk1 : ¬ (3 * (nl : Int) + (3 * (nn : Int) + ((nm : Int) + 1)) < 0) := by omega
    have c0 := KG_36.cell0 (i := 0) rfl
    have d0 := KW_34.cell0 (i := 0) rfl
    go_wp2_with fail
    clear c0 d0
    refine (HEA.out _ _ _ _ _ (own_hs OG_37.out) (own_hs OW_35.out)).mono ?_
    rintro e w14 ⟨rfl, blw14⟩
    have zw14 := blw14.size
    have P0_38 := P0_33.to blw14
    have KW_39 := KW_34.to blw14
    have OW_40 := Lib.hid (own_below OW_35.out blw14)
    have KG_41 := KG_36.to blw14
    have OG_42 := Lib.hid (own_below OG_37.out blw14)
    have b_43 := below_to b12 blw14
    clear P0_33 KW_34 OW_35 KG_36 OG_37 b12
    clear blw14
    clear hk1
    have c0 := KG_41.cell0 (i := 0) rfl
    go_wp2_with fail
    clear c0
    refine (mark_region4 _ len _ L 1 w14 (by omega) (by omega) (by omega) OG_42.out).mono ?_
    rintro e w15 ⟨rfl, hoE, g15⟩
    have b15 : Below w.heap.size w w15 := b_43.trans ((Below.refl w.heap.size w14).grown g15 (by omega) (fun p h => by have := xG.out p h; omega))
    have z15 := g15.size
    have OE := Lib.hid hoE
    have P0_44 : Blk _ _ _ _ := ((g15).block _ P0_38.lt (fun h => by have := xG.out _ h.symm; have := P0_38.lt; omega)).trans P0_38
    have KW_45 : Blk _ _ _ _ := ((g15).block _ KW_39.lt (fun h => by have := xG.out _ h.symm; have := KW_39.lt; omega)).trans KW_39
    have OW_46 := Lib.hid (own_grow OW_40.out g15 (fun p hp e => by have := xW.out p hp; have := xG.out p e.symm; omega))
    have KG_47 : Blk _ _ _ _ := ((g15).block _ KG_41.lt (fun h => by have := xG.out _ h.symm; have := KG_41.lt; omega)).trans KG_41
    clear P0_38 KW_39 OW_40 KG_41 OG_42 b_43
    clear g15 hoE
    have c0 := KG_47.cell0 (i := 0) rfl
    go_wp2_with fail
    clear c0
    refine (held_region4 ag len cg 1 w15 (by omega) (by omega) (by omega) (own_hs OE.out)).mono ?_
    rintro e w16 ⟨rfl, bl16⟩
    have z16 := bl16.size
    have P0_48 := P0_44.to bl16
    have KW_49 := KW_45.to bl16
    have OW_50 := Lib.hid (own_below OW_46.out bl16)
    have KG_51 := KG_47.to bl16
    have b_52 := below_to b15 bl16
    have OE_53 := Lib.hid (own_below OE.out bl16)
    clear P0_44 KW_45 OW_46 KG_47 b15 OE
    clear bl16
    have hk2 : ¬ (3 * (len : Int) + 1 < 0) := by omega
    have c0 := P0_48.c8_0
    have c1 := P0_48.c8_1
    have c2 := P0_48.c8_2
    have c3 := P0_48.c8_3
    have c4 := P0_48.c8_4
    have c5 := P0_48.c8_5
    have c6 := P0_48.c8_6
    have c7 := P0_48.c8_7
    go_wp2_with fail
    clear c0 c1 c2 c3 c4 c5 c6 c7
    refine (HT.out _ b_52).mono ?_
    rintro e w17 ⟨amS, cmS, anS, cnS, alS, clS, rfl, hoS, blS⟩
    have P0_54 := P0_48.to blS
    have KW_55 := KW_49.to blS
    have OW_56 := Lib.hid (own_below OW_50.out blS)
    have KG_57 := KG_51.to blS
    have b_58 := below_to b_52 blS
    have OE_59 := Lib.hid (own_below OE_53.out blS)
    clear P0_48 KW_49 OW_50 KG_51 b_52 OE_53
    clear blS
    go_wp2_with fail
    refine (HI.out _ _ _ _ _ _ _ hoS.at).mono ?_
    rintro e w18 ⟨ah, ch, rfl, hoH, blH⟩
    have bGH := below_to blH (below_one w18 (.cells #[.slice ah len ch] 26))
    have zH := blH.size
    have xH := Lib.hid (fun p (h : (Value.slice ah len ch).ownBlock = some p) => own_block_lt hoH h)
    have KH := blk_new w18 #[.slice ah len ch] 26 rfl
    have OH := Lib.hid (own_below hoH (below_one w18 (.cells #[.slice ah len ch] 26)))
    have yH : (w18.alloc (.cells #[.slice ah len ch] 26)).heap.size = w18.heap.size + 1 := by simp
    have P0_60 := P0_54.to bGH
    have KW_61 := KW_55.to bGH
    have OW_62 := Lib.hid (own_below OW_56.out bGH)
    have KG_63 := KG_57.to bGH
    have b_64 := below_to b_58 bGH
    have OE_65 := Lib.hid (own_below OE_59.out bGH)
    clear P0_54 KW_55 OW_56 KG_57 b_58 OE_59
    clear bGH blH hoH
    clear hoS
    have c0 := KH.cell0 (i := 0) rfl
    have d0 := KW_61.cell0 (i := 0) rfl
    go_wp2_with fail
    clear c0 d0
    generalize w18.alloc (.cells #[.slice ah len ch] 26) = Z2 at *
    obtain ⟨eH, heH⟩ : ∃ b, w18.heap.size = b := ⟨_, rfl⟩
    rw [heH] at KH yH zH xH ⊢
    clear heH
    refine (HEA.out _ _ _ _ _ (own_hs OH.out) (own_hs OW_62.out)).mono ?_
    rintro e wy ⟨rfl, blwy⟩
    have zwy := blwy.size
    have P0_66 := P0_60.to blwy
    have KW_67 := KW_61.to blwy
    have OW_68 := Lib.hid (own_below OW_62.out blwy)
    have KG_69 := KG_63.to blwy
    have b_70 := below_to b_64 blwy
    have OE_71 := Lib.hid (own_below OE_65.out blwy)
    have KH_72 := KH.to blwy
    have OH_73 := Lib.hid (own_below OH.out blwy)
    clear P0_60 KW_61 OW_62 KG_63 b_64 OE_65 KH OH
    clear blwy
    have c0 := KG_69.cell0 (i := 0) rfl
    go_wp2_with fail
    clear c0
    refine (held_region4 ag len cg 1 wy (by omega) (by omega) (by omega) (own_hs OE_71.out)).mono ?_
    rintro e wt ⟨rfl, blt⟩
    have bt := below_to b_70 blt
    go_wp2
    go_ret
    exact ⟨rfl, bt⟩
  · have HZ := Lib.hid (fun V => sz_room am nm cm q bx cy lo hi an nn cn al nl cl V h1 h2 h3 1048576 (by omega) (by omega) (-1) (by rw [if_neg hle]))
    clear hA h64 h1 h2 h3 hle
    go_enter Tryz.func7, Tryz.ntmps7
    have c0_0 := K0.c8_0
    have c0_1 := K0.c8_1
    have c0_2 := K0.c8_2
    have c0_3 := K0.c8_3
    have c0_4 := K0.c8_4
    have c0_5 := K0.c8_5
    have c0_6 := K0.c8_6
    have c0_7 := K0.c8_7
    go_wp2_with fail
    generalize (w.alloc (.cells #[.slice am nm cm, .int .i64 q, .int .i64 bx, .int .i64 cy, .int .i64 lo, .int .i64 hi, .slice an nn cn, .slice al nl cl] 61)) = V at *
    refine (HZ.out _).mono ?_
    rintro e w1 ⟨rfl, bl1⟩
    have b1 := below_to bV bl1
    go_wp2
    go_ret
    exact ⟨rfl, b1⟩
set_option maxRecDepth 100000 in
set_option maxHeartbeats 12800000 in
theorem law_ro (am : Option Addr) (nm cm : Nat) (zs : List Int) (q bx cy lo hi : Int) (an : Option Addr) (nn cn : Nat) (ps : List H3) (al : Option Addr) (nl cl : Nat) (qs : List H3) (w : World) (h64 : R64 q bx cy lo hi ps qs) (h1 : nm ≤ maxLen) (h2 : nn ≤ maxLen) (h3 : nl ≤ maxLen) (hA : RAt w am nm zs an nn ps al nl qs) :
    Calls Tryz.prog 8 #[.agg #[.slice am nm cm, .int .i64 q, .int .i64 bx, .int .i64 cy, .int .i64 lo, .int .i64 hi, .slice an nn cn, .slice al nl cl]] w fun e w' => e = .returned (.bool true) ∧ Below w.heap.size w w' := by
  have bV := below_one w (.cells #[.slice am nm cm, .int .i64 q, .int .i64 bx, .int .i64 cy, .int .i64 lo, .int .i64 hi, .slice an nn cn, .slice al nl cl] 61)
  have K0 := blk_new w #[.slice am nm cm, .int .i64 q, .int .i64 bx, .int .i64 cy, .int .i64 lo, .int .i64 hi, .slice an nn cn, .slice al nl cl] 61 (b := w.heap.size) (by simp)
  by_cases hle : (nm : Int) + nn + nl ≤ 1048576
  · have HZ := Lib.hid (fun V => sz_room am nm cm q bx cy lo hi an nn cn al nl cl V h1 h2 h3 1048576 (by omega) (by omega) (1048576 - nm - nn - nl) (by rw [if_pos hle]))
    have HT := Lib.hid (fun V (h : Below w.heap.size w V) => to_room am nm cm zs q bx cy lo hi an nn cn ps al nl cl qs V (hA.below h) (by omega))
    have HE := Lib.hid (fun V am1 cm1 an1 cn1 al1 cl1 am2 cm2 an2 cn2 al2 cl2 (k1 : RAt V am1 nm zs an1 nn ps al1 nl qs) (k2 : RAt V am2 nm zs an2 nn ps al2 nl qs) => eq_room am1 nm cm1 zs q bx cy lo hi an1 nn cn1 ps al1 nl cl1 qs am2 cm2 an2 cn2 al2 cl2 V k1 k2 (by omega))
    have HS := Lib.hid (fun V am1 cm1 an1 cn1 al1 cl1 (k0 : RNil am1 nm cm1 an1 nn cn1 al1 nl cl1) (k1 : RAt V am1 nm zs an1 nn ps al1 nl qs) => spec_ro am1 nm cm1 zs q bx cy lo hi an1 nn cn1 ps al1 nl cl1 qs V k1 h64 (by omega) k0)
    have HI := Lib.hid (fun V am1 cm1 an1 cn1 al1 cl1 (k1 : RAt V am1 nm zs an1 nn ps al1 nl qs) => impl_ro am1 nm cm1 zs q bx cy lo hi an1 nn cn1 ps al1 nl cl1 qs V k1 h64 (by omega))
    generalize kgN zs q bx cy lo hi ps qs = NN at *
    have hz1 : ¬ (1048576 - (nm : Int) - nn - nl < 0) := by omega
    clear hA h64 h1 h2 h3
    go_enter Tryz.func8, Tryz.ntmps8
    have c0_0 := K0.c8_0
    have c0_1 := K0.c8_1
    have c0_2 := K0.c8_2
    have c0_3 := K0.c8_3
    have c0_4 := K0.c8_4
    have c0_5 := K0.c8_5
    have c0_6 := K0.c8_6
    have c0_7 := K0.c8_7
    go_wp2_with fail
    clear c0_0 c0_1 c0_2 c0_3 c0_4 c0_5 c0_6 c0_7
    generalize (w.alloc (.cells #[.slice am nm cm, .int .i64 q, .int .i64 bx, .int .i64 cy, .int .i64 lo, .int .i64 hi, .slice an nn cn, .slice al nl cl] 61)) = V at *
    refine (HZ.out _).mono ?_
    rintro e w1 ⟨rfl, bl1⟩
    have P0_1 := K0.to bl1
    have b_2 := below_to bV bl1
    clear K0 bV
    clear bl1 HZ
    have c0 := P0_1.c8_0
    have c1 := P0_1.c8_1
    have c2 := P0_1.c8_2
    have c3 := P0_1.c8_3
    have c4 := P0_1.c8_4
    have c5 := P0_1.c8_5
    have c6 := P0_1.c8_6
    have c7 := P0_1.c8_7
    go_wp2_with fail
    clear c0 c1 c2 c3 c4 c5 c6 c7
    refine (HT.out _ b_2).mono ?_
    rintro e w2 ⟨amR, cmR, anR, cnR, alR, clR, rfl, hoR, blR⟩
    have P0_3 := P0_1.to blR
    have b_4 := below_to b_2 blR
    clear P0_1 b_2
    have zR := blR.size
    clear blR
    have y0 := P0_3.lt
    go_wp2_with fail
    refine (HS.out _ _ _ _ _ _ _ hoR.nil hoR.at).mono ?_
    rintro e w3 ⟨rfl, blW⟩
    have zW := blW.size
    have P0_5 := P0_3.to blW
    have b_6 := below_to b_4 blW
    clear P0_3 b_4
    clear blW
    clear hoR HS
    have c0 := P0_5.c8_0
    have c1 := P0_5.c8_1
    have c2 := P0_5.c8_2
    have c3 := P0_5.c8_3
    have c4 := P0_5.c8_4
    have c5 := P0_5.c8_5
    have c6 := P0_5.c8_6
    have c7 := P0_5.c8_7
    go_wp2_with fail
    clear c0 c1 c2 c3 c4 c5 c6 c7
    refine (HT.out _ b_6).mono ?_
    rintro e w4 ⟨am4, cm4, an4, cn4, al4, cl4, rfl, ho4, bl4⟩
    have bX := below_to bl4 (below_one w4 (.cells #[.slice am4 nm cm4, .int .i64 q, .int .i64 bx, .int .i64 cy, .int .i64 lo, .int .i64 hi, .slice an4 nn cn4, .slice al4 nl cl4] 28))
    have xr := Lib.hid ho4.rows_lt
    have z4 := bl4.size
    have KX := blk_new w4 #[.slice am4 nm cm4, .int .i64 q, .int .i64 bx, .int .i64 cy, .int .i64 lo, .int .i64 hi, .slice an4 nn cn4, .slice al4 nl cl4] 28 rfl
    have OX := Lib.hid (ho4.below (below_one w4 (.cells #[.slice am4 nm cm4, .int .i64 q, .int .i64 bx, .int .i64 cy, .int .i64 lo, .int .i64 hi, .slice an4 nn cn4, .slice al4 nl cl4] 28)))
    have y4 : (w4.alloc (.cells #[.slice am4 nm cm4, .int .i64 q, .int .i64 bx, .int .i64 cy, .int .i64 lo, .int .i64 hi, .slice an4 nn cn4, .slice al4 nl cl4] 28)).heap.size = w4.heap.size + 1 := by simp
    have P0_7 := P0_5.to bX
    have b_8 := below_to b_6 bX
    clear P0_5 b_6
    clear bX bl4 ho4
    have c0 := KX.c8_0
    have c1 := KX.c8_1
    have c2 := KX.c8_2
    have c3 := KX.c8_3
    have c4 := KX.c8_4
    have c5 := KX.c8_5
    have c6 := KX.c8_6
    have c7 := KX.c8_7
    go_wp2_with fail
    clear c0 c1 c2 c3 c4 c5 c6 c7
    generalize w4.alloc (.cells #[.slice am4 nm cm4, .int .i64 q, .int .i64 bx, .int .i64 cy, .int .i64 lo, .int .i64 hi, .slice an4 nn cn4, .slice al4 nl cl4] 28) = X at *
    obtain ⟨ex, hex⟩ : ∃ b, w4.heap.size = b := ⟨_, rfl⟩
    rw [hex] at KX y4 z4 xr ⊢
    clear hex
    refine (HI.out _ _ _ _ _ _ _ OX.out.at).mono ?_
    rintro e w6 ⟨rfl, blG⟩
    have zG := blG.size
    have P0_9 := P0_7.to blG
    have b_10 := below_to b_8 blG
    have KX_11 := KX.to blG
    have OX_12 := Lib.hid (OX.out.below blG)
    clear P0_7 b_8 KX OX
    clear blG
    go_wp2
    go_region_held3 (fun w' => w'.cell? ⟨ex, 0, none⟩ = some (.slice am4 nm cm4) ∧ w'.cell? ⟨ex, 1, none⟩ = some (.int .i64 q) ∧ w'.cell? ⟨ex, 2, none⟩ = some (.int .i64 bx) ∧ w'.cell? ⟨ex, 3, none⟩ = some (.int .i64 cy) ∧ w'.cell? ⟨ex, 4, none⟩ = some (.int .i64 lo) ∧ w'.cell? ⟨ex, 5, none⟩ = some (.int .i64 hi) ∧ w'.cell? ⟨ex, 6, none⟩ = some (.slice an4 nn cn4) ∧ w'.cell? ⟨ex, 7, none⟩ = some (.slice al4 nl cl4) ∧ w'.cell? ⟨w.heap.size, 0, none⟩ = some (.slice am nm cm) ∧ w'.cell? ⟨w.heap.size, 1, none⟩ = some (.int .i64 q) ∧ w'.cell? ⟨w.heap.size, 2, none⟩ = some (.int .i64 bx) ∧ w'.cell? ⟨w.heap.size, 3, none⟩ = some (.int .i64 cy) ∧ w'.cell? ⟨w.heap.size, 4, none⟩ = some (.int .i64 lo) ∧ w'.cell? ⟨w.heap.size, 5, none⟩ = some (.int .i64 hi) ∧ w'.cell? ⟨w.heap.size, 6, none⟩ = some (.slice an nn cn) ∧ w'.cell? ⟨w.heap.size, 7, none⟩ = some (.slice al nl cl))
      ((refine room16n KX_11 P0_9 ?_; repeat (first | exact Below.refl _ _ | refine below_drw ?_ | refine below_to ?_ (by assumption))))
      (first | (go_at_call 29; (with_reducible refine (HT.out _ ?_).mono ?_); (focus (repeat (first | exact b_10 | refine below_drw ?_ | refine below_to ?_ (by assumption)))); rintro e w8 ⟨am7, cm7, an7, cn7, al7, cl7, rfl, ho8, bl8⟩) | (go_at_call 31; (with_reducible refine (HE.out _ _ _ _ _ _ _ _ _ _ _ _ _ ?_ ?_).mono ?_); (focus ((refine OX_12.out.at.below ?_); repeat (first | exact Below.refl _ _ | refine below_drw ?_ | refine below_to ?_ (by assumption)))); (focus ((refine ho8.at.below ?_); repeat (first | exact Below.refl _ _ | refine below_drw ?_ | refine below_to ?_ (by assumption)))); rintro e w9 ⟨rfl, bl9⟩))
    all_goals
      go_wp2
      go_ret
      refine ⟨rfl, ?_⟩
      repeat (first | exact b_10 | refine below_drw ?_ | refine below_to ?_ (by assumption))
  · have HZ := Lib.hid (fun V => sz_room am nm cm q bx cy lo hi an nn cn al nl cl V h1 h2 h3 1048576 (by omega) (by omega) (-1) (by rw [if_neg hle]))
    clear hA h64 h1 h2 h3 hle
    go_enter Tryz.func8, Tryz.ntmps8
    have c0_0 := K0.c8_0
    have c0_1 := K0.c8_1
    have c0_2 := K0.c8_2
    have c0_3 := K0.c8_3
    have c0_4 := K0.c8_4
    have c0_5 := K0.c8_5
    have c0_6 := K0.c8_6
    have c0_7 := K0.c8_7
    go_wp2_with fail
    generalize (w.alloc (.cells #[.slice am nm cm, .int .i64 q, .int .i64 bx, .int .i64 cy, .int .i64 lo, .int .i64 hi, .slice an nn cn, .slice al nl cl] 61)) = V at *
    refine (HZ.out _).mono ?_
    rintro e w1 ⟨rfl, bl1⟩
    have b1 := below_to bV bl1
    go_wp2
    go_ret
    exact ⟨rfl, b1⟩
end Go.Proofs.YtdjjncofahnaaaaGreat
