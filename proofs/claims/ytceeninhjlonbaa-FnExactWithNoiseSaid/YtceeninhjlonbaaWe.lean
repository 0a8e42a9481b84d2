/- The walk of the law of WithNoise. -/
import Derived.Test.YtceeninhjlonbaaWd
import Derived.Test.YtceeninhjlonbaaMf
namespace Go.Proofs.Ytceeninhjlonbaa
open Go.RowKit
open Geo (H3)

theorem room9 {V X : World} {B C : Nat} {a0 a1 a2 a3 a4 a5 a6 a7 b0 : Value} {T U : TypeId} (h : Blk V B #[a0, a1, a2, a3, a4, a5, a6, a7] T) (k : Blk V C #[b0] U) (hb : Below V.heap.size V X) : X.cell? ⟨B, 0, none⟩ = some a0 ∧ X.cell? ⟨B, 1, none⟩ = some a1 ∧ X.cell? ⟨B, 2, none⟩ = some a2 ∧ X.cell? ⟨B, 3, none⟩ = some a3 ∧ X.cell? ⟨B, 4, none⟩ = some a4 ∧ X.cell? ⟨B, 5, none⟩ = some a5 ∧ X.cell? ⟨B, 6, none⟩ = some a6 ∧ X.cell? ⟨B, 7, none⟩ = some a7 ∧ X.cell? ⟨C, 0, none⟩ = some b0 :=
  ⟨(h.to hb).c8_0, (h.to hb).c8_1, (h.to hb).c8_2, (h.to hb).c8_3, (h.to hb).c8_4, (h.to hb).c8_5, (h.to hb).c8_6, (h.to hb).c8_7, (k.to hb).cell0 rfl⟩
set_option maxRecDepth 100000 in
set_option maxHeartbeats 12800000 in
theorem law_wno (am : Option Addr) (nm cm : Nat) (zs : List Int) (q bx cy lo hi : Int) (an : Option Addr) (nn cn : Nat) (ps : List H3) (al : Option Addr) (nl cl : Nat) (qs : List H3) (a : Option Addr) (n ca : Nat) (rs : List H3) (w : World) (h64 : R64 q bx cy lo hi ps qs) (h1 : nm ≤ maxLen) (h2 : nn ≤ maxLen) (h3 : nl ≤ maxLen) (hA : RAt w am nm zs an nn ps al nl qs) (hl : rs.length = n) (hn : n ≤ maxLen) (hr64 : ∀ h ∈ rs, In64 h) (hG : HsAt w a rs) :
    Calls Try.prog 5 #[.agg #[.slice am nm cm, .int .i64 q, .int .i64 bx, .int .i64 cy, .int .i64 lo, .int .i64 hi, .slice an nn cn, .slice al nl cl], .agg #[.slice a n ca]] w fun e w' => e = .returned (.bool true) ∧ Below w.heap.size w w' := by
  have bV := below_bx2 (below_one w (.cells #[.slice am nm cm, .int .i64 q, .int .i64 bx, .int .i64 cy, .int .i64 lo, .int .i64 hi, .slice an nn cn, .slice al nl cl] 27)) (.cells #[.slice a n ca] 25)
  have K0 := (blk_new w #[.slice am nm cm, .int .i64 q, .int .i64 bx, .int .i64 cy, .int .i64 lo, .int .i64 hi, .slice an nn cn, .slice al nl cl] 27 (b := w.heap.size) (by simp)).to (below_one _ (.cells #[.slice a n ca] 25))
  have K1 := blk_new (w.alloc (.cells #[.slice am nm cm, .int .i64 q, .int .i64 bx, .int .i64 cy, .int .i64 lo, .int .i64 hi, .slice an nn cn, .slice al nl cl] 27)) #[.slice a n ca] 25 (b := w.heap.size + 1) (by simp)
  by_cases hle : (nm : Int) + nn + nl ≤ 1048576
  · by_cases hle2 : (n : Int) ≤ 1048576 - nm - nn - nl
    · have HZ := Lib.hid (fun V => sz_room am nm cm q bx cy lo hi an nn cn al nl cl V h1 h2 h3 1048576 (by omega) (by omega) (1048576 - nm - nn - nl) (by rw [if_pos hle]))
      have HT := Lib.hid (fun V (h : Below w.heap.size w V) => to_room am nm cm zs q bx cy lo hi an nn cn ps al nl cl qs V (hA.below h) (by omega))
      have HE := Lib.hid (fun V am1 cm1 an1 cn1 al1 cl1 am2 cm2 an2 cn2 al2 cl2 (k1 : RAt V am1 nm zs an1 nn ps al1 nl qs) (k2 : RAt V am2 nm zs an2 nn ps al2 nl qs) => eq_room am1 nm cm1 zs q bx cy lo hi an1 nn cn1 ps al1 nl cl1 qs am2 cm2 an2 cn2 al2 cl2 V k1 k2 (by omega))
      have HY := Lib.hid (fun V => sz_region a n ca V hn (1048576 - nm - nn - nl) (by omega) (by omega) (1048576 - nm - nn - nl - n) (by rw [if_pos hle2]))
      have HTG := Lib.hid (fun V (h : Below w.heap.size w V) => to_region2 a n ca rs V hl (by omega) (hG.below h))
      have HEG := Lib.hid (fun V a1 a2 c1 c2 (k1 : HsAt V a1 rs) (k2 : HsAt V a2 rs) => eq_region a1 a2 n c1 c2 rs V hl (by omega) k1 k2)
      have HS := Lib.hid (fun V am1 cm1 an1 cn1 al1 cl1 a1 c1 (k0 : RNil am1 nm cm1 an1 nn cn1 al1 nl cl1) (k1 : RAt V am1 nm zs an1 nn ps al1 nl qs) (g0 : a1 = none → n = 0 ∧ c1 = 0) (g1 : HsAt V a1 rs) => (spec_wno am1 nm cm1 zs q bx cy lo hi an1 nn cn1 ps al1 nl cl1 qs V a1 n c1 rs k1 h64 (by omega) k0 hl g1 g0 hr64 (by omega)).mono fun e w' k => k.uni)
      have HI := Lib.hid (fun V am1 cm1 an1 cn1 al1 cl1 a1 c1 (k1 : RAt V am1 nm zs an1 nn ps al1 nl qs) (g1 : HsAt V a1 rs) => (impl_wno am1 nm cm1 zs q bx cy lo hi an1 nn cn1 ps al1 nl cl1 qs V a1 n c1 rs k1 h64 hl g1 hr64 (by omega) (by omega)).mono fun e w' k => k.uni)
      have hL : (if (rmB zs q bx cy lo hi ps qs && rmB zs q bx cy lo hi rs qs) = true then zs else []).length + (if (rmB zs q bx cy lo hi ps qs && rmB zs q bx cy lo hi rs qs) = true then rs else []).length + (if (rmB zs q bx cy lo hi ps qs && rmB zs q bx cy lo hi rs qs) = true then qs else []).length ≤ 1048576 := by
        split
        · rw [hA.lm, hl, hA.ll]; omega
        · simp
      unfold AnsU at HS HI
      generalize (if (rmB zs q bx cy lo hi ps qs && rmB zs q bx cy lo hi rs qs) = true then zs else []) = Z at *
      generalize (if (rmB zs q bx cy lo hi ps qs && rmB zs q bx cy lo hi rs qs) = true then q else 0) = Q at *
      generalize (if (rmB zs q bx cy lo hi ps qs && rmB zs q bx cy lo hi rs qs) = true then bx else 0) = BX at *
      generalize (if (rmB zs q bx cy lo hi ps qs && rmB zs q bx cy lo hi rs qs) = true then cy else 0) = CY at *
      generalize (if (rmB zs q bx cy lo hi ps qs && rmB zs q bx cy lo hi rs qs) = true then lo else 0) = LO at *
      generalize (if (rmB zs q bx cy lo hi ps qs && rmB zs q bx cy lo hi rs qs) = true then hi else 0) = HI' at *
      generalize (if (rmB zs q bx cy lo hi ps qs && rmB zs q bx cy lo hi rs qs) = true then rs else []) = PS at *
      generalize (if (rmB zs q bx cy lo hi ps qs && rmB zs q bx cy lo hi rs qs) = true then qs else []) = QS at *
      generalize (rmB zs q bx cy lo hi ps qs && rmB zs q bx cy lo hi rs qs) = R at *
      have HEA := Lib.hid (fun V am1 cm1 an1 cn1 al1 cl1 am2 cm2 an2 cn2 al2 cl2 (k1 : RAt V am1 Z.length Z an1 PS.length PS al1 QS.length QS) (k2 : RAt V am2 Z.length Z an2 PS.length PS al2 QS.length QS) => eq_room am1 Z.length cm1 Z Q BX CY LO HI' an1 PS.length cn1 PS al1 QS.length cl1 QS am2 cm2 an2 cn2 al2 cl2 V k1 k2 hL)
      generalize Z.length = mz at *
      generalize PS.length = mp at *
      generalize QS.length = mq at *
      have hz1 : ¬ (1048576 - (nm : Int) - nn - nl < 0) := by omega
      have hz2 : ¬ (1048576 - (nm : Int) - nn - nl - n < 0) := by omega
      clear hA h64 h1 h2 h3 hl hn hr64 hG
      go_enter Try.func5, Try.ntmps5
      have c0_0 := K0.c8_0
      have c0_1 := K0.c8_1
      have c0_2 := K0.c8_2
      have c0_3 := K0.c8_3
      have c0_4 := K0.c8_4
      have c0_5 := K0.c8_5
      have c0_6 := K0.c8_6
      have c0_7 := K0.c8_7
      go_wp2_with fail
      clear c0_0 c0_1 c0_2 c0_3 c0_4 c0_5 c0_6 c0_7
      generalize ((w.alloc (.cells #[.slice am nm cm, .int .i64 q, .int .i64 bx, .int .i64 cy, .int .i64 lo, .int .i64 hi, .slice an nn cn, .slice al nl cl] 27)).alloc (.cells #[.slice a n ca] 25)) = V at *
      refine (HZ.out _).mono ?_
      rintro e w1 ⟨rfl, bl1⟩
      have P0_1 := K0.to bl1
      have b_2 := below_to bV bl1
      have P1_3 := K1.to bl1
      clear K0 bV K1
      clear bl1 HZ
      have c1 := P1_3.cell0 (i := 0) (v := .slice a n ca) rfl
      go_wp2_with fail
      clear c1
      refine (HY.out _).mono ?_
      rintro e w2 ⟨rfl, bl2⟩
      have P0_4 := P0_1.to bl2
      have b_5 := below_to b_2 bl2
      have P1_6 := P1_3.to bl2
      clear P0_1 b_2 P1_3
      clear bl2 HY
      go_wp2
      go_cut [6, 7] from 27 to 34 (fun s6 s7 wx => BoxM w2 Z Q BX CY LO HI' PS QS mz mp mq s6 wx ∧ s7 = .bool R)
      case first =>
        go_region_held3 (fun w' => w'.cell? ⟨w.heap.size, 0, none⟩ = some (.slice am nm cm) ∧ w'.cell? ⟨w.heap.size, 1, none⟩ = some (.int .i64 q) ∧ w'.cell? ⟨w.heap.size, 2, none⟩ = some (.int .i64 bx) ∧ w'.cell? ⟨w.heap.size, 3, none⟩ = some (.int .i64 cy) ∧ w'.cell? ⟨w.heap.size, 4, none⟩ = some (.int .i64 lo) ∧ w'.cell? ⟨w.heap.size, 5, none⟩ = some (.int .i64 hi) ∧ w'.cell? ⟨w.heap.size, 6, none⟩ = some (.slice an nn cn) ∧ w'.cell? ⟨w.heap.size, 7, none⟩ = some (.slice al nl cl) ∧ w'.cell? ⟨w.heap.size + 1, 0, none⟩ = some (.slice a n ca))
          ((refine room9 P0_4 P1_6 ?_; repeat (first | with_reducible exact Below.refl _ _ | with_reducible refine Below.setCell ?_ (by first | (simp; done) | (simp; omega)) _ | with_reducible refine below_bx2 ?_ _ | with_reducible refine below_drw ?_ | with_reducible refine below_to ?_ (by assumption))))
          (first | (go_at_call 14; (with_reducible refine (HT.out _ ?_).mono ?_); (focus (repeat (first | with_reducible exact b_5 | with_reducible refine below_bx2 ?_ _ | with_reducible refine below_drw ?_ | with_reducible refine below_to ?_ (by assumption)))); rintro e wR ⟨amR, cmR, anR, cnR, alR, clR, rfl, hoR, blR⟩; have hsR := blR.size; (try simp at hsR); (first | (with_reducible have kR := early8 (U := w2) blR) | (with_reducible have kR := early8d (U := w2) blR) | skip)) | (go_at_call 17; (with_reducible refine (HTG.out _ ?_).mono ?_); (focus (repeat (first | with_reducible exact b_5 | with_reducible refine below_bx2 ?_ _ | with_reducible refine below_drw ?_ | with_reducible refine below_to ?_ (by assumption)))); rintro e wB ⟨aB, cB, rfl, hoB, blB⟩; have hsB := blB.size; (try simp at hsB); (first | (with_reducible have kB := early8 (U := wR) blB) | (with_reducible have kB := early8d (U := wR) blB) | (with_reducible have kB := kR.to blB) | (with_reducible have kB := kR.to (undrew blB)) | skip)) | (go_at_call 25; (with_reducible refine (HS.out _ _ _ _ _ _ _ _ _ hoR.nil ?_ (own_nil hoB) ?_).mono ?_); (focus ((refine hoR.at.below ?_); repeat (first | with_reducible exact Below.refl _ _ | with_reducible refine Below.setCell ?_ (by first | (simp; done) | (simp; omega)) _ | with_reducible refine below_bx2 ?_ _ | with_reducible refine below_drw ?_ | with_reducible refine below_to ?_ (by assumption)))); (focus ((refine (own_hs hoB).below ?_); repeat (first | with_reducible exact Below.refl _ _ | with_reducible refine Below.setCell ?_ (by first | (simp; done) | (simp; omega)) _ | with_reducible refine below_bx2 ?_ _ | with_reducible refine below_drw ?_ | with_reducible refine below_to ?_ (by assumption)))); rintro e wC ⟨amC, cmC, anC, cnC, alC, clC, rfl, hoC, blC⟩; have hsC := blC.size; (try simp at hsC); (first | (with_reducible have kC := early8 (U := wB) blC) | (with_reducible have kC := early8d (U := wB) blC) | (with_reducible have kC := kB.to blC) | (with_reducible have kC := kB.to (undrew blC)) | skip); (first | (have e0 := kC.c8_0; have f0 := kC.free 0; have e1 := kC.c8_1; have f1 := kC.free 1; have e2 := kC.c8_2; have f2 := kC.free 2; have e3 := kC.c8_3; have f3 := kC.free 3; have e4 := kC.c8_4; have f4 := kC.free 4; have e5 := kC.c8_5; have f5 := kC.free 5; have e6 := kC.c8_6; have f6 := kC.free 6; have e7 := kC.c8_7; have f7 := kC.free 7) | skip)))
        all_goals
          go_wp2_with fail
          go_meet
          refine ⟨?_, rfl⟩
          have hbC : Below w2.heap.size w2 wC := (by repeat (first | with_reducible exact Below.refl _ _ | with_reducible refine below_bx2 ?_ _ | with_reducible refine below_drw ?_ | with_reducible refine below_to ?_ (by assumption)))
          first
            | with_reducible exact BoxM.last hoC (by first | omega | (simp; omega) | (simp; done) | with_reducible exact Nat.le_refl _) hbC
            | (have hE := BoxM.early2 (W := w2) (wC := wC) (q := Q) (bx := BX) (cy := CY) (lo := LO) (hi := HI') kC (by first | omega | (simp; omega) | (simp; done) | with_reducible exact Nat.le_refl _) hoC (by first | omega | (simp; omega) | (simp; done) | with_reducible exact Nat.le_refl _) hbC; unfold put8 at hE; with_reducible exact hE)
      case rest =>
        obtain ⟨⟨gw, amw, cmw, anw, cnw, alw, clw, rfl, hgw, Kw, Ow', hb6⟩, rfl⟩ := hcut
        rename World => wcw
        have Ow := Lib.hid Ow'
        have xw := Lib.hid Ow'.rows_lt
        have P0_7 := P0_4.to hb6
        have b_8 := below_to b_5 hb6
        have P1_9 := P1_6.to hb6
        clear P0_4 b_5 P1_6
        have z6w := hb6.size
        have y6w := Kw.lt
        clear Ow' hb6
        have y0 := P1_9.lt
        have c0 := P0_7.c8_0
        have c1 := P0_7.c8_1
        have c2 := P0_7.c8_2
        have c3 := P0_7.c8_3
        have c4 := P0_7.c8_4
        have c5 := P0_7.c8_5
        have c6 := P0_7.c8_6
        have c7 := P0_7.c8_7
        go_wp2_with fail
        clear c0 c1 c2 c3 c4 c5 c6 c7
        refine (HT.out _ b_8).mono ?_
        rintro e w4 ⟨am4, cm4, an4, cn4, al4, cl4, rfl, ho4, bl4⟩
        have bX := below_to bl4 (below_one w4 (.cells #[.slice am4 nm cm4, .int .i64 q, .int .i64 bx, .int .i64 cy, .int .i64 lo, .int .i64 hi, .slice an4 nn cn4, .slice al4 nl cl4] 39))
        have xr := Lib.hid ho4.rows_lt
        have z4 := bl4.size
        have KX := blk_new w4 #[.slice am4 nm cm4, .int .i64 q, .int .i64 bx, .int .i64 cy, .int .i64 lo, .int .i64 hi, .slice an4 nn cn4, .slice al4 nl cl4] 39 rfl
        have OX := Lib.hid (ho4.below (below_one w4 (.cells #[.slice am4 nm cm4, .int .i64 q, .int .i64 bx, .int .i64 cy, .int .i64 lo, .int .i64 hi, .slice an4 nn cn4, .slice al4 nl cl4] 39)))
        have y4 : (w4.alloc (.cells #[.slice am4 nm cm4, .int .i64 q, .int .i64 bx, .int .i64 cy, .int .i64 lo, .int .i64 hi, .slice an4 nn cn4, .slice al4 nl cl4] 39)).heap.size = w4.heap.size + 1 := by simp
        have P0_10 := P0_7.to bX
        have b_11 := below_to b_8 bX
        have P1_12 := P1_9.to bX
        have Kw_13 := Kw.to bX
        have Ow_14 := Lib.hid (Ow.out.below bX)
        clear P0_7 b_8 P1_9 Kw Ow
        clear bX bl4 ho4
        have c8 := P1_12.cell0 (i := 0) (v := .slice a n ca) rfl
        go_wp2_with fail
        clear c8
        generalize w4.alloc (.cells #[.slice am4 nm cm4, .int .i64 q, .int .i64 bx, .int .i64 cy, .int .i64 lo, .int .i64 hi, .slice an4 nn cn4, .slice al4 nl cl4] 39) = X at *
        obtain ⟨ex, hex⟩ : ∃ b, w4.heap.size = b := ⟨_, rfl⟩
        rw [hex] at KX y4 z4 xr ⊢
        clear hex
        refine (HTG.out _ b_11).mono ?_
        rintro e w5 ⟨ay, cy1, rfl, ho5, bl5⟩
        have bY := below_to bl5 (below_one w5 (.cells #[.slice ay n cy1] 37))
        have xy := Lib.hid (fun p (h : (Value.slice ay n cy1).ownBlock = some p) => own_block_lt ho5 h)
        have z5 := bl5.size
        have KY := blk_new w5 #[.slice ay n cy1] 37 rfl
        have OY := Lib.hid (own_below ho5 (below_one w5 (.cells #[.slice ay n cy1] 37)))
        have y5 : (w5.alloc (.cells #[.slice ay n cy1] 37)).heap.size = w5.heap.size + 1 := by simp
        have P0_15 := P0_10.to bY
        have b_16 := below_to b_11 bY
        have P1_17 := P1_12.to bY
        have Kw_18 := Kw_13.to bY
        have Ow_19 := Lib.hid (Ow_14.out.below bY)
        have KX_20 := KX.to bY
        have OX_21 := Lib.hid (OX.out.below bY)
        clear P0_10 b_11 P1_12 Kw_13 Ow_14 KX OX
        clear bY bl5 ho5
        have c0 := KX_20.c8_0
        have c1 := KX_20.c8_1
        have c2 := KX_20.c8_2
        have c3 := KX_20.c8_3
        have c4 := KX_20.c8_4
        have c5 := KX_20.c8_5
        have c6 := KX_20.c8_6
        have c7 := KX_20.c8_7
        have c8 := KY.cell0 (i := 0) rfl
        go_wp2_with fail
        clear c0 c1 c2 c3 c4 c5 c6 c7 c8
        generalize w5.alloc (.cells #[.slice ay n cy1] 37) = Y at *
        obtain ⟨ey, hey⟩ : ∃ b, w5.heap.size = b := ⟨_, rfl⟩
        rw [hey] at KY y5 z5 xy ⊢
        clear hey
        refine (HI.out _ _ _ _ _ _ _ _ _ OX_21.out.at (own_hs OY.out)).mono ?_
        rintro e w6 ⟨amg, cmg, ang, cng, alg, clg, rfl, hog, bl6⟩
        have bG := below_to bl6 (below_one w6 (.cells #[.slice amg mz cmg, .int .i64 Q, .int .i64 BX, .int .i64 CY, .int .i64 LO, .int .i64 HI', .slice ang mp cng, .slice alg mq clg] 39))
        have xg := Lib.hid hog.rows_lt
        have zg := bl6.size
        have Kg := blk_new w6 #[.slice amg mz cmg, .int .i64 Q, .int .i64 BX, .int .i64 CY, .int .i64 LO, .int .i64 HI', .slice ang mp cng, .slice alg mq clg] 39 rfl
        have Og := Lib.hid (hog.below (below_one w6 (.cells #[.slice amg mz cmg, .int .i64 Q, .int .i64 BX, .int .i64 CY, .int .i64 LO, .int .i64 HI', .slice ang mp cng, .slice alg mq clg] 39)))
        have yg : (w6.alloc (.cells #[.slice amg mz cmg, .int .i64 Q, .int .i64 BX, .int .i64 CY, .int .i64 LO, .int .i64 HI', .slice ang mp cng, .slice alg mq clg] 39)).heap.size = w6.heap.size + 1 := by simp
        have P0_22 := P0_15.to bG
        have b_23 := below_to b_16 bG
        have P1_24 := P1_17.to bG
        have Kw_25 := Kw_18.to bG
        have Ow_26 := Lib.hid (Ow_19.out.below bG)
        have KX_27 := KX_20.to bG
        have OX_28 := Lib.hid (OX_21.out.below bG)
        have KY_29 := KY.to bG
        have OY_30 := Lib.hid (own_below OY.out bG)
        clear P0_15 b_16 P1_17 Kw_18 Ow_19 KX_20 OX_21 KY OY
        clear bG bl6 hog
        have c0 := Kg.c8_0
        have c1 := Kg.c8_1
        have c2 := Kg.c8_2
        have c3 := Kg.c8_3
        have c4 := Kg.c8_4
        have c5 := Kg.c8_5
        have c6 := Kg.c8_6
        have c7 := Kg.c8_7
        have d0 := Kw_25.c8_0
        have d1 := Kw_25.c8_1
        have d2 := Kw_25.c8_2
        have d3 := Kw_25.c8_3
        have d4 := Kw_25.c8_4
        have d5 := Kw_25.c8_5
        have d6 := Kw_25.c8_6
        have d7 := Kw_25.c8_7
        go_wp2_with fail
        clear c0 c1 c2 c3 c4 c5 c6 c7 d0 d1 d2 d3 d4 d5 d6 d7
        generalize w6.alloc (.cells #[.slice amg mz cmg, .int .i64 Q, .int .i64 BX, .int .i64 CY, .int .i64 LO, .int .i64 HI', .slice ang mp cng, .slice alg mq clg] 39) = G at *
        obtain ⟨eg, heg⟩ : ∃ b, w6.heap.size = b := ⟨_, rfl⟩
        rw [heg] at Kg yg zg xg ⊢
        clear heg
        refine (HEA.out _ _ _ _ _ _ _ _ _ _ _ _ _ Og.out.at Ow_26.out.at).mono ?_
        rintro e w7 ⟨rfl, bl7⟩
        have z7 := bl7.size
        have P0_31 := P0_22.to bl7
        have b_32 := below_to b_23 bl7
        have P1_33 := P1_24.to bl7
        have Kw_34 := Kw_25.to bl7
        have Ow_35 := Lib.hid (Ow_26.out.below bl7)
        have KX_36 := KX_27.to bl7
        have OX_37 := Lib.hid (OX_28.out.below bl7)
        have KY_38 := KY_29.to bl7
        have OY_39 := Lib.hid (own_below OY_30.out bl7)
        have Kg_40 := Kg.to bl7
        have Og_41 := Lib.hid (Og.out.below bl7)
        clear P0_22 b_23 P1_24 Kw_25 Ow_26 KX_27 OX_28 KY_29 OY_30 Kg Og
        clear bl7
        go_wp2
        go_region_held3 (fun w' => w'.cell? ⟨ex, 0, none⟩ = some (.slice am4 nm cm4) ∧ w'.cell? ⟨ex, 1, none⟩ = some (.int .i64 q) ∧ w'.cell? ⟨ex, 2, none⟩ = some (.int .i64 bx) ∧ w'.cell? ⟨ex, 3, none⟩ = some (.int .i64 cy) ∧ w'.cell? ⟨ex, 4, none⟩ = some (.int .i64 lo) ∧ w'.cell? ⟨ex, 5, none⟩ = some (.int .i64 hi) ∧ w'.cell? ⟨ex, 6, none⟩ = some (.slice an4 nn cn4) ∧ w'.cell? ⟨ex, 7, none⟩ = some (.slice al4 nl cl4) ∧ w'.cell? ⟨w.heap.size, 0, none⟩ = some (.slice am nm cm) ∧ w'.cell? ⟨w.heap.size, 1, none⟩ = some (.int .i64 q) ∧ w'.cell? ⟨w.heap.size, 2, none⟩ = some (.int .i64 bx) ∧ w'.cell? ⟨w.heap.size, 3, none⟩ = some (.int .i64 cy) ∧ w'.cell? ⟨w.heap.size, 4, none⟩ = some (.int .i64 lo) ∧ w'.cell? ⟨w.heap.size, 5, none⟩ = some (.int .i64 hi) ∧ w'.cell? ⟨w.heap.size, 6, none⟩ = some (.slice an nn cn) ∧ w'.cell? ⟨w.heap.size, 7, none⟩ = some (.slice al nl cl))
          ((refine room16n KX_36 P0_31 ?_; repeat (first | exact Below.refl _ _ | refine below_drw ?_ | refine below_to ?_ (by assumption))))
          (first | (go_at_call 14; (with_reducible refine (HT.out _ ?_).mono ?_); (focus (repeat (first | exact b_32 | refine below_drw ?_ | refine below_to ?_ (by assumption)))); rintro e w8 ⟨am7, cm7, an7, cn7, al7, cl7, rfl, ho8, bl8⟩) | (go_at_call 19; (with_reducible refine (HE.out _ _ _ _ _ _ _ _ _ _ _ _ _ ?_ ?_).mono ?_); (focus ((refine OX_37.out.at.below ?_); repeat (first | exact Below.refl _ _ | refine below_drw ?_ | refine below_to ?_ (by assumption)))); (focus (exact ho8.at)); rintro e w9 ⟨rfl, bl9⟩))
        have blj : Below w7.heap.size w7 w9 := below_to (below_to (below_drw (Below.refl _ _)) bl8) bl9
        have z9 := blj.size
        have P0_42 := P0_31.to blj
        have b_43 := below_to b_32 blj
        have P1_44 := P1_33.to blj
        have Kw_45 := Kw_34.to blj
        have Ow_46 := Lib.hid (Ow_35.out.below blj)
        have KX_47 := KX_36.to blj
        have OX_48 := Lib.hid (OX_37.out.below blj)
        have KY_49 := KY_38.to blj
        have OY_50 := Lib.hid (own_below OY_39.out blj)
        have Kg_51 := Kg_40.to blj
        have Og_52 := Lib.hid (Og_41.out.below blj)
        clear P0_31 b_32 P1_33 Kw_34 Ow_35 KX_36 OX_37 KY_38 OY_39 Kg_40 Og_41
        clear bl8 bl9 blj ho8
        go_wp2
        go_region_held3 (fun w' => w'.cell? ⟨ey, 0, none⟩ = some (.slice ay n cy1) ∧ w'.cell? ⟨w.heap.size + 1, 0, none⟩ = some (.slice a n ca))
          ((refine twoc (KY_49.cell0 (i := 0) rfl) (P1_44.cell0 (i := 0) rfl) ?_; repeat (first | exact Below.refl _ _ | refine below_drw ?_ | refine below_to ?_ (by assumption))))
          (first | (go_at_call 17; (with_reducible refine (HTG.out _ ?_).mono ?_); (focus (repeat (first | exact b_43 | refine below_drw ?_ | refine below_to ?_ (by assumption)))); rintro e w10 ⟨ao10, cp10, rfl, ho10, bl10⟩) | (go_at_call 20; (with_reducible refine (HEG.out _ _ _ _ _ ?_ ?_).mono ?_); (focus ((refine (own_hs OY_50.out).below ?_); repeat (first | exact Below.refl _ _ | refine below_drw ?_ | refine below_to ?_ (by assumption)))); (focus (exact own_hs ho10)); rintro e w11 ⟨rfl, bl11⟩))
        have blk11 : Below w9.heap.size w9 w11 := below_to (below_to (below_drw (Below.refl _ _)) bl10) bl11
        have z11 := blk11.size
        have P0_53 := P0_42.to blk11
        have b_54 := below_to b_43 blk11
        have P1_55 := P1_44.to blk11
        have Kw_56 := Kw_45.to blk11
        have Ow_57 := Lib.hid (Ow_46.out.below blk11)
        have KX_58 := KX_47.to blk11
        have OX_59 := Lib.hid (OX_48.out.below blk11)
        have KY_60 := KY_49.to blk11
        have OY_61 := Lib.hid (own_below OY_50.out blk11)
        have Kg_62 := Kg_51.to blk11
        have Og_63 := Lib.hid (Og_52.out.below blk11)
        clear P0_42 b_43 P1_44 Kw_45 Ow_46 KX_47 OX_48 KY_49 OY_50 Kg_51 Og_52
        clear bl10 bl11 blk11 ho10
        have c0 := KX_58.c8_0
        have c1 := KX_58.c8_1
        have c2 := KX_58.c8_2
        have c3 := KX_58.c8_3
        have c4 := KX_58.c8_4
        have c5 := KX_58.c8_5
        have c6 := KX_58.c8_6
        have c7 := KX_58.c8_7
        go_wp2_with fail
        clear c0 c1 c2 c3 c4 c5 c6 c7
        refine (mark_room4 am4 nm cm4 zs q bx cy lo hi an4 nn cn4 ps al4 nl cl4 qs _ 1 w11 (by omega) (by omega) (by omega) OX_59.out).mono ?_
        rintro e w12 ⟨rfl, _, g12⟩
        have b12 : Below w.heap.size w w12 := b_54.trans (Gr3.below g12 (by omega) (fun p h => by have := xr.out p (.inl h); omega) (fun p h => by have := xr.out p (.inr (.inl h)); omega) (fun p h => by have := xr.out p (.inr (.inr h)); omega))
        have z12 := g12.size
        have P0_64 := Gr3.blk g12 P0_53 (fun h => by have := xr.out _ (.inl h.symm); have := P0_53.lt; omega) (fun h => by have := xr.out _ (.inr (.inl h.symm)); have := P0_53.lt; omega) (fun h => by have := xr.out _ (.inr (.inr h.symm)); have := P0_53.lt; omega)
        have P1_65 := Gr3.blk g12 P1_55 (fun h => by have := xr.out _ (.inl h.symm); have := P1_55.lt; omega) (fun h => by have := xr.out _ (.inr (.inl h.symm)); have := P1_55.lt; omega) (fun h => by have := xr.out _ (.inr (.inr h.symm)); have := P1_55.lt; omega)
        have Kw_66 := Gr3.blk g12 Kw_56 (fun h => by have := xr.out _ (.inl h.symm); have := Kw_56.lt; omega) (fun h => by have := xr.out _ (.inr (.inl h.symm)); have := Kw_56.lt; omega) (fun h => by have := xr.out _ (.inr (.inr h.symm)); have := Kw_56.lt; omega)
        have Ow_67 := Lib.hid (Gr3.rown g12 Ow_57.out (fun p hp => ⟨fun e => by have := xw.out p hp; have := xr.out p (.inl e.symm); omega, fun e => by have := xw.out p hp; have := xr.out p (.inr (.inl e.symm)); omega, fun e => by have := xw.out p hp; have := xr.out p (.inr (.inr e.symm)); omega⟩))
        have KY_68 := Gr3.blk g12 KY_60 (fun h => by have := xr.out _ (.inl h.symm); have := KY_60.lt; omega) (fun h => by have := xr.out _ (.inr (.inl h.symm)); have := KY_60.lt; omega) (fun h => by have := xr.out _ (.inr (.inr h.symm)); have := KY_60.lt; omega)
        have OY_69 := Lib.hid (Gr3.own g12 OY_61.out (fun p hp e => by have := xy.out p hp; have := xr.out p (.inl e.symm); omega) (fun p hp e => by have := xy.out p hp; have := xr.out p (.inr (.inl e.symm)); omega) (fun p hp e => by have := xy.out p hp; have := xr.out p (.inr (.inr e.symm)); omega))
        have Kg_70 := Gr3.blk g12 Kg_62 (fun h => by have := xr.out _ (.inl h.symm); have := Kg_62.lt; omega) (fun h => by have := xr.out _ (.inr (.inl h.symm)); have := Kg_62.lt; omega) (fun h => by have := xr.out _ (.inr (.inr h.symm)); have := Kg_62.lt; omega)
        have Og_71 := Lib.hid (Gr3.rown g12 Og_63.out (fun p hp => ⟨fun e => by have := xg.out p hp; have := xr.out p (.inl e.symm); omega, fun e => by have := xg.out p hp; have := xr.out p (.inr (.inl e.symm)); omega, fun e => by have := xg.out p hp; have := xr.out p (.inr (.inr e.symm)); omega⟩))
        clear P0_53 b_54 P1_55 Kw_56 Ow_57 KX_58 OX_59 KY_60 OY_61 Kg_62 Og_63
        clear g12
        have c8 := KY_68.cell0 (i := 0) rfl
        go_wp2_with fail
        clear c8
        refine (mark_region4 _ n _ rs (3 * nl + (3 * nn + (nm + 1))) w12 (by omega) (by omega) (by omega) OY_69.out).mono ?_
        rintro e w13 ⟨rfl, _, g13⟩
        have b13 : Below w.heap.size w w13 := b12.trans ((Below.refl w.heap.size w12).grown g13 (by omega) (fun p h => by have := xy.out p h; omega))
        have z13 := g13.size
        have P0_72 : Blk _ _ _ _ := ((g13).block _ P0_64.lt (fun h => by have := xy.out _ h.symm; have := P0_64.lt; omega)).trans P0_64
        have P1_73 : Blk _ _ _ _ := ((g13).block _ P1_65.lt (fun h => by have := xy.out _ h.symm; have := P1_65.lt; omega)).trans P1_65
        have Kw_74 : Blk _ _ _ _ := ((g13).block _ Kw_66.lt (fun h => by have := xy.out _ h.symm; have := Kw_66.lt; omega)).trans Kw_66
        have Ow_75 := Lib.hid (Ow_67.out.grow1 g13 (fun p hp e => by have := xw.out p hp; have := xy.out p e.symm; omega))
        have Kg_76 : Blk _ _ _ _ := ((g13).block _ Kg_70.lt (fun h => by have := xy.out _ h.symm; have := Kg_70.lt; omega)).trans Kg_70
        have Og_77 := Lib.hid (Og_71.out.grow1 g13 (fun p hp e => by have := xg.out p hp; have := xy.out p e.symm; omega))
        clear P0_64 P1_65 Kw_66 Ow_67 KY_68 OY_69 Kg_70 Og_71 b12
        clear g13
        have hk1 : ¬ (3 * (n : Int) + (3 * (nl : Int) + (3 * (nn : Int) + ((nm : Int) + 1))) < 0) := by omega
        have c0 := Kg_76.c8_0
        have c1 := Kg_76.c8_1
        have c2 := Kg_76.c8_2
        have c3 := Kg_76.c8_3
        have c4 := Kg_76.c8_4
        have c5 := Kg_76.c8_5
        have c6 := Kg_76.c8_6
        have c7 := Kg_76.c8_7
        have d0 := Kw_74.c8_0
        have d1 := Kw_74.c8_1
        have d2 := Kw_74.c8_2
        have d3 := Kw_74.c8_3
        have d4 := Kw_74.c8_4
        have d5 := Kw_74.c8_5
        have d6 := Kw_74.c8_6
        have d7 := Kw_74.c8_7
        go_wp2_with fail
        clear c0 c1 c2 c3 c4 c5 c6 c7 d0 d1 d2 d3 d4 d5 d6 d7
        clear hk1
        refine (HEA.out _ _ _ _ _ _ _ _ _ _ _ _ _ Og_77.out.at Ow_75.out.at).mono ?_
        rintro e w14 ⟨rfl, bl14⟩
        have z14 := bl14.size
        have P0_78 := P0_72.to bl14
        have P1_79 := P1_73.to bl14
        have Kw_80 := Kw_74.to bl14
        have Ow_81 := Lib.hid (Ow_75.out.below bl14)
        have Kg_82 := Kg_76.to bl14
        have Og_83 := Lib.hid (Og_77.out.below bl14)
        have b_84 := below_to b13 bl14
        clear P0_72 P1_73 Kw_74 Ow_75 Kg_76 Og_77 b13
        clear bl14
        have c0 := Kg_82.c8_0
        have c1 := Kg_82.c8_1
        have c2 := Kg_82.c8_2
        have c3 := Kg_82.c8_3
        have c4 := Kg_82.c8_4
        have c5 := Kg_82.c8_5
        have c6 := Kg_82.c8_6
        have c7 := Kg_82.c8_7
        go_wp2_with fail
        clear c0 c1 c2 c3 c4 c5 c6 c7
        refine (mark_room4 amg mz cmg Z Q BX CY LO HI' ang mp cng PS alg mq clg QS _ 1 w14 (by omega) (by omega) (by omega) Og_83.out).mono ?_
        rintro e w15 ⟨rfl, hoE, g15⟩
        have b15 : Below w.heap.size w w15 := b_84.trans (Gr3.below g15 (by omega) (fun p h => by have := xg.out p (.inl h); omega) (fun p h => by have := xg.out p (.inr (.inl h)); omega) (fun p h => by have := xg.out p (.inr (.inr h)); omega))
        have z15 := g15.size
        have OE := Lib.hid hoE
        have P0_85 := Gr3.blk g15 P0_78 (fun h => by have := xg.out _ (.inl h.symm); have := P0_78.lt; omega) (fun h => by have := xg.out _ (.inr (.inl h.symm)); have := P0_78.lt; omega) (fun h => by have := xg.out _ (.inr (.inr h.symm)); have := P0_78.lt; omega)
        have P1_86 := Gr3.blk g15 P1_79 (fun h => by have := xg.out _ (.inl h.symm); have := P1_79.lt; omega) (fun h => by have := xg.out _ (.inr (.inl h.symm)); have := P1_79.lt; omega) (fun h => by have := xg.out _ (.inr (.inr h.symm)); have := P1_79.lt; omega)
        have Kw_87 := Gr3.blk g15 Kw_80 (fun h => by have := xg.out _ (.inl h.symm); have := Kw_80.lt; omega) (fun h => by have := xg.out _ (.inr (.inl h.symm)); have := Kw_80.lt; omega) (fun h => by have := xg.out _ (.inr (.inr h.symm)); have := Kw_80.lt; omega)
        have Ow_88 := Lib.hid (Gr3.rown g15 Ow_81.out (fun p hp => ⟨fun e => by have := xw.out p hp; have := xg.out p (.inl e.symm); omega, fun e => by have := xw.out p hp; have := xg.out p (.inr (.inl e.symm)); omega, fun e => by have := xw.out p hp; have := xg.out p (.inr (.inr e.symm)); omega⟩))
        have Kg_89 := Gr3.blk g15 Kg_82 (fun h => by have := xg.out _ (.inl h.symm); have := Kg_82.lt; omega) (fun h => by have := xg.out _ (.inr (.inl h.symm)); have := Kg_82.lt; omega) (fun h => by have := xg.out _ (.inr (.inr h.symm)); have := Kg_82.lt; omega)
        clear P0_78 P1_79 Kw_80 Ow_81 Kg_82 Og_83 b_84
        clear g15 hoE
        have c0 := Kg_89.c8_0
        have c1 := Kg_89.c8_1
        have c2 := Kg_89.c8_2
        have c3 := Kg_89.c8_3
        have c4 := Kg_89.c8_4
        have c5 := Kg_89.c8_5
        have c6 := Kg_89.c8_6
        have c7 := Kg_89.c8_7
        go_wp2_with fail
        clear c0 c1 c2 c3 c4 c5 c6 c7
        refine (held_room4 amg mz cmg Q BX CY LO HI' ang mp cng alg mq clg 1 w15 (by omega) (by omega) (by omega) OE.out.at.hm OE.out.at.hn OE.out.at.hl).mono ?_
        rintro e w16 ⟨rfl, bl16⟩
        have z16 := bl16.size
        have P0_90 := P0_85.to bl16
        have P1_91 := P1_86.to bl16
        have Kw_92 := Kw_87.to bl16
        have Ow_93 := Lib.hid (Ow_88.out.below bl16)
        have Kg_94 := Kg_89.to bl16
        have b_95 := below_to b15 bl16
        have OE_96 := Lib.hid (OE.out.below bl16)
        clear P0_85 P1_86 Kw_87 Ow_88 Kg_89 b15 OE
        clear bl16
        have hk2 : ¬ (3 * (mq : Int) + (3 * (mp : Int) + ((mz : Int) + 1)) < 0) := by omega
        go_wp2
        go_cut [15, 16] from 94 to 101 (fun s6 s7 wx => BoxM w16 Z Q BX CY LO HI' PS QS mz mp mq s6 wx ∧ s7 = .bool R)
        case first =>
          go_region_held3 (fun w' => w'.cell? ⟨w.heap.size, 0, none⟩ = some (.slice am nm cm) ∧ w'.cell? ⟨w.heap.size, 1, none⟩ = some (.int .i64 q) ∧ w'.cell? ⟨w.heap.size, 2, none⟩ = some (.int .i64 bx) ∧ w'.cell? ⟨w.heap.size, 3, none⟩ = some (.int .i64 cy) ∧ w'.cell? ⟨w.heap.size, 4, none⟩ = some (.int .i64 lo) ∧ w'.cell? ⟨w.heap.size, 5, none⟩ = some (.int .i64 hi) ∧ w'.cell? ⟨w.heap.size, 6, none⟩ = some (.slice an nn cn) ∧ w'.cell? ⟨w.heap.size, 7, none⟩ = some (.slice al nl cl) ∧ w'.cell? ⟨w.heap.size + 1, 0, none⟩ = some (.slice a n ca))
            ((refine room9 P0_90 P1_91 ?_; repeat (first | with_reducible exact Below.refl _ _ | with_reducible refine Below.setCell ?_ (by first | (simp; done) | (simp; omega)) _ | with_reducible refine below_bx2 ?_ _ | with_reducible refine below_drw ?_ | with_reducible refine below_to ?_ (by assumption))))
            (first | (go_at_call 14; (with_reducible refine (HT.out _ ?_).mono ?_); (focus (repeat (first | with_reducible exact b_95 | with_reducible refine below_bx2 ?_ _ | with_reducible refine below_drw ?_ | with_reducible refine below_to ?_ (by assumption)))); rintro e wR ⟨amR, cmR, anR, cnR, alR, clR, rfl, hoR, blR⟩; have hsR := blR.size; (try simp at hsR); (first | (with_reducible have kR := early8 (U := w16) blR) | (with_reducible have kR := early8d (U := w16) blR) | skip)) | (go_at_call 17; (with_reducible refine (HTG.out _ ?_).mono ?_); (focus (repeat (first | with_reducible exact b_95 | with_reducible refine below_bx2 ?_ _ | with_reducible refine below_drw ?_ | with_reducible refine below_to ?_ (by assumption)))); rintro e wB ⟨aB, cB, rfl, hoB, blB⟩; have hsB := blB.size; (try simp at hsB); (first | (with_reducible have kB := early8 (U := wR) blB) | (with_reducible have kB := early8d (U := wR) blB) | (with_reducible have kB := kR.to blB) | (with_reducible have kB := kR.to (undrew blB)) | skip)) | (go_at_call 26; (with_reducible refine (HI.out _ _ _ _ _ _ _ _ _ ?_ ?_).mono ?_); (focus ((refine hoR.at.below ?_); repeat (first | with_reducible exact Below.refl _ _ | with_reducible refine Below.setCell ?_ (by first | (simp; done) | (simp; omega)) _ | with_reducible refine below_bx2 ?_ _ | with_reducible refine below_drw ?_ | with_reducible refine below_to ?_ (by assumption)))); (focus ((refine (own_hs hoB).below ?_); repeat (first | with_reducible exact Below.refl _ _ | with_reducible refine Below.setCell ?_ (by first | (simp; done) | (simp; omega)) _ | with_reducible refine below_bx2 ?_ _ | with_reducible refine below_drw ?_ | with_reducible refine below_to ?_ (by assumption)))); rintro e wC ⟨amC, cmC, anC, cnC, alC, clC, rfl, hoC, blC⟩; have hsC := blC.size; (try simp at hsC); (first | (with_reducible have kC := early8 (U := wB) blC) | (with_reducible have kC := early8d (U := wB) blC) | (with_reducible have kC := kB.to blC) | (with_reducible have kC := kB.to (undrew blC)) | skip); (first | (have e0 := kC.c8_0; have f0 := kC.free 0; have e1 := kC.c8_1; have f1 := kC.free 1; have e2 := kC.c8_2; have f2 := kC.free 2; have e3 := kC.c8_3; have f3 := kC.free 3; have e4 := kC.c8_4; have f4 := kC.free 4; have e5 := kC.c8_5; have f5 := kC.free 5; have e6 := kC.c8_6; have f6 := kC.free 6; have e7 := kC.c8_7; have f7 := kC.free 7) | skip)))
          all_goals
            go_wp2_with fail
            go_meet
            refine ⟨?_, rfl⟩
            have hbC : Below w16.heap.size w16 wC := (by repeat (first | with_reducible exact Below.refl _ _ | with_reducible refine below_bx2 ?_ _ | with_reducible refine below_drw ?_ | with_reducible refine below_to ?_ (by assumption)))
            first
              | with_reducible exact BoxM.last hoC (by first | omega | (simp; omega) | (simp; done) | with_reducible exact Nat.le_refl _) hbC
              | (have hE := BoxM.early2 (W := w16) (wC := wC) (q := Q) (bx := BX) (cy := CY) (lo := LO) (hi := HI') kC (by first | omega | (simp; omega) | (simp; done) | with_reducible exact Nat.le_refl _) hoC (by first | omega | (simp; omega) | (simp; done) | with_reducible exact Nat.le_refl _) hbC; unfold put8 at hE; with_reducible exact hE)
        case rest =>
          obtain ⟨⟨gh, amh, cmh, anh, cnh, alh, clh, rfl, hgh, Kh, Oh', hb6⟩, rfl⟩ := hcut
          rename World => wch
          have Oh := Lib.hid Oh'
          have xh := Lib.hid Oh'.rows_lt
          have P0_97 := P0_90.to hb6
          have P1_98 := P1_91.to hb6
          have Kw_99 := Kw_92.to hb6
          have Ow_100 := Lib.hid (Ow_93.out.below hb6)
          have Kg_101 := Kg_94.to hb6
          have b_102 := below_to b_95 hb6
          have OE_103 := Lib.hid (OE_96.out.below hb6)
          clear P0_90 P1_91 Kw_92 Ow_93 Kg_94 b_95 OE_96
          have z6h := hb6.size
          have y6h := Kh.lt
          clear Oh' hb6
          have c0 := Kh.c8_0
          have c1 := Kh.c8_1
          have c2 := Kh.c8_2
          have c3 := Kh.c8_3
          have c4 := Kh.c8_4
          have c5 := Kh.c8_5
          have c6 := Kh.c8_6
          have c7 := Kh.c8_7
          have d0 := Kw_99.c8_0
          have d1 := Kw_99.c8_1
          have d2 := Kw_99.c8_2
          have d3 := Kw_99.c8_3
          have d4 := Kw_99.c8_4
          have d5 := Kw_99.c8_5
          have d6 := Kw_99.c8_6
          have d7 := Kw_99.c8_7
          go_wp2_with fail
          clear c0 c1 c2 c3 c4 c5 c6 c7 d0 d1 d2 d3 d4 d5 d6 d7
          refine (HEA.out _ _ _ _ _ _ _ _ _ _ _ _ _ Oh.out.at Ow_100.out.at).mono ?_
          rintro e wy ⟨rfl, bly⟩
          have P0_104 := P0_97.to bly
          have P1_105 := P1_98.to bly
          have Kw_106 := Kw_99.to bly
          have Ow_107 := Lib.hid (Ow_100.out.below bly)
          have Kg_108 := Kg_101.to bly
          have b_109 := below_to b_102 bly
          have OE_110 := Lib.hid (OE_103.out.below bly)
          have Kh_111 := Kh.to bly
          have Oh_112 := Lib.hid (Oh.out.below bly)
          clear P0_97 P1_98 Kw_99 Ow_100 Kg_101 b_102 OE_103 Kh Oh
          clear bly
          have c0 := Kg_108.c8_0
          have c1 := Kg_108.c8_1
          have c2 := Kg_108.c8_2
          have c3 := Kg_108.c8_3
          have c4 := Kg_108.c8_4
          have c5 := Kg_108.c8_5
          have c6 := Kg_108.c8_6
          have c7 := Kg_108.c8_7
          go_wp2_with fail
          clear c0 c1 c2 c3 c4 c5 c6 c7
          refine (held_room4 amg mz cmg Q BX CY LO HI' ang mp cng alg mq clg 1 wy (by omega) (by omega) (by omega) OE_110.out.at.hm OE_110.out.at.hn OE_110.out.at.hl).mono ?_
          rintro e wt ⟨rfl, blt⟩
          have bt := below_to b_109 blt
          go_wp2
          go_ret
          exact ⟨rfl, bt⟩
    · have HZ := Lib.hid (fun V => sz_room am nm cm q bx cy lo hi an nn cn al nl cl V h1 h2 h3 1048576 (by omega) (by omega) (1048576 - nm - nn - nl) (by rw [if_pos hle]))
      have HY := Lib.hid (fun V => sz_region a n ca V hn (1048576 - nm - nn - nl) (by omega) (by omega) (-1) (by rw [if_neg hle2]))
      have hz1 : ¬ (1048576 - (nm : Int) - nn - nl < 0) := by omega
      clear hA h64 h1 h2 h3 hl hn hr64 hG hle hle2
      go_enter Try.func5, Try.ntmps5
      have c0_0 := K0.c8_0
      have c0_1 := K0.c8_1
      have c0_2 := K0.c8_2
      have c0_3 := K0.c8_3
      have c0_4 := K0.c8_4
      have c0_5 := K0.c8_5
      have c0_6 := K0.c8_6
      have c0_7 := K0.c8_7
      go_wp2_with fail
      generalize ((w.alloc (.cells #[.slice am nm cm, .int .i64 q, .int .i64 bx, .int .i64 cy, .int .i64 lo, .int .i64 hi, .slice an nn cn, .slice al nl cl] 27)).alloc (.cells #[.slice a n ca] 25)) = V at *
      refine (HZ.out _).mono ?_
      rintro e w1 ⟨rfl, bl1⟩
      have b1 := below_to bV bl1
      have L1 := K1.to bl1
      clear c0_0 c0_1 c0_2 c0_3 c0_4 c0_5 c0_6 c0_7
      have c1 := L1.cell0 (i := 0) (v := .slice a n ca) rfl
      go_wp2_with fail
      refine (HY.out _).mono ?_
      rintro e w2 ⟨rfl, bl2⟩
      have b2 := below_to b1 bl2
      go_wp2
      go_ret
      exact ⟨rfl, b2⟩
  · have HZ := Lib.hid (fun V => sz_room am nm cm q bx cy lo hi an nn cn al nl cl V h1 h2 h3 1048576 (by omega) (by omega) (-1) (by rw [if_neg hle]))
    clear hA h64 h1 h2 h3 hl hn hr64 hG hle
    go_enter Try.func5, Try.ntmps5
    have c0_0 := K0.c8_0
    have c0_1 := K0.c8_1
    have c0_2 := K0.c8_2
    have c0_3 := K0.c8_3
    have c0_4 := K0.c8_4
    have c0_5 := K0.c8_5
    have c0_6 := K0.c8_6
    have c0_7 := K0.c8_7
    go_wp2_with fail
    generalize ((w.alloc (.cells #[.slice am nm cm, .int .i64 q, .int .i64 bx, .int .i64 cy, .int .i64 lo, .int .i64 hi, .slice an nn cn, .slice al nl cl] 27)).alloc (.cells #[.slice a n ca] 25)) = V at *
    refine (HZ.out _).mono ?_
    rintro e w1 ⟨rfl, bl1⟩
    have b1 := below_to bV bl1
    go_wp2
    go_ret
    exact ⟨rfl, b1⟩
end Go.Proofs.Ytceeninhjlonbaa
