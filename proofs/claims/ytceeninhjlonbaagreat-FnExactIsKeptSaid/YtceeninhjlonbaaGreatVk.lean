/- The walk of the law of IsKept. -/
import Derived.Test.YtceeninhjlonbaaGreatVg
import Derived.Test.YtceeninhjlonbaaGreatVh
namespace Go.Proofs.YtceeninhjlonbaaGreat
open Go.RowKit
open Geo (H3)

set_option maxRecDepth 100000 in
set_option maxHeartbeats 12800000 in
theorem law_ik (am : Option Addr) (nm cm : Nat) (zs : List Int) (q bx cy lo hi : Int) (an : Option Addr) (nn cn : Nat) (ps : List H3) (al : Option Addr) (nl cl : Nat) (qs : List H3) (a : Option Addr) (n ca : Nat) (rs : List H3) (w : World) (h64 : R64 q bx cy lo hi ps qs) (h1 : nm ≤ maxLen) (h2 : nn ≤ maxLen) (h3 : nl ≤ maxLen) (hA : RAt w am nm zs an nn ps al nl qs) (hl : rs.length = n) (hn : n ≤ maxLen) (hr64 : ∀ h ∈ rs, In64 h) (hG : HsAt w a rs) :
    Calls Tryz.prog 6 #[.agg #[.slice am nm cm, .int .i64 q, .int .i64 bx, .int .i64 cy, .int .i64 lo, .int .i64 hi, .slice an nn cn, .slice al nl cl], .agg #[.slice a n ca]] w fun e w' => e = .returned (.bool true) ∧ Below w.heap.size w w' := by
  have bV := below_bx2 (below_one w (.cells #[.slice am nm cm, .int .i64 q, .int .i64 bx, .int .i64 cy, .int .i64 lo, .int .i64 hi, .slice an nn cn, .slice al nl cl] 27)) (.cells #[.slice a n ca] 25)
  have K0 := (blk_new w #[.slice am nm cm, .int .i64 q, .int .i64 bx, .int .i64 cy, .int .i64 lo, .int .i64 hi, .slice an nn cn, .slice al nl cl] 27 (b := w.heap.size) (by simp)).to (below_one _ (.cells #[.slice a n ca] 25))
  have K1 := blk_new (w.alloc (.cells #[.slice am nm cm, .int .i64 q, .int .i64 bx, .int .i64 cy, .int .i64 lo, .int .i64 hi, .slice an nn cn, .slice al nl cl] 27)) #[.slice a n ca] 25 (b := w.heap.size + 1) (by simp)
  by_cases hle : (nm : Int) + nn + nl ≤ 1048576
  · by_cases hle2 : (n : Int) ≤ 1048576 - nm - nn - nl
    · have HZ := Lib.hid (fun V => sz_room am nm cm q bx cy lo hi an nn cn al nl cl V h1 h2 h3 1048576 (by omega) (by omega) (1048576 - nm - nn - nl) (by rw [if_pos hle]))
      have HY := Lib.hid (fun V => sz_region a n ca V hn (1048576 - nm - nn - nl) (by omega) (by omega) (1048576 - nm - nn - nl - n) (by rw [if_pos hle2]))
      have HT := Lib.hid (fun V (h : Below w.heap.size w V) => to_room am nm cm zs q bx cy lo hi an nn cn ps al nl cl qs V (hA.below h) (by omega))
      have HTG := Lib.hid (fun V (h : Below w.heap.size w V) => to_region2 a n ca rs V hl (by omega) (hG.below h))
      have HE := Lib.hid (fun V am1 cm1 an1 cn1 al1 cl1 am2 cm2 an2 cn2 al2 cl2 (k1 : RAt V am1 nm zs an1 nn ps al1 nl qs) (k2 : RAt V am2 nm zs an2 nn ps al2 nl qs) => eq_room am1 nm cm1 zs q bx cy lo hi an1 nn cn1 ps al1 nl cl1 qs am2 cm2 an2 cn2 al2 cl2 V k1 k2 (by omega))
      have HEG := Lib.hid (fun V a1 a2 c1 c2 (k1 : HsAt V a1 rs) (k2 : HsAt V a2 rs) => eq_region a1 a2 n c1 c2 rs V hl (by omega) k1 k2)
      have HS := Lib.hid (fun V am1 cm1 an1 cn1 al1 cl1 a1 c1 (k0 : RNil am1 nm cm1 an1 nn cn1 al1 nl cl1) (k1 : RAt V am1 nm zs an1 nn ps al1 nl qs) (g0 : a1 = none → n = 0 ∧ c1 = 0) (g1 : HsAt V a1 rs) => spec_ik am1 nm cm1 zs q bx cy lo hi an1 nn cn1 ps al1 nl cl1 qs a1 n c1 rs V k1 h64 (by omega) hl (by omega) hr64 g0 g1 k0)
      have HI := Lib.hid (fun V am1 cm1 an1 cn1 al1 cl1 a1 c1 (k1 : RAt V am1 nm zs an1 nn ps al1 nl qs) (g0 : a1 = none → n = 0 ∧ c1 = 0) (g1 : HsAt V a1 rs) => impl_ik am1 nm cm1 zs q bx cy lo hi an1 nn cn1 ps al1 nl cl1 qs a1 n c1 rs V k1 h64 (by omega) hl (by omega) hr64 g0 g1)
      generalize ikB zs q bx cy lo hi ps qs rs = R at *
      have hz1 : ¬ (1048576 - (nm : Int) - nn - nl < 0) := by omega
      have hz2 : ¬ (1048576 - (nm : Int) - nn - nl - n < 0) := by omega
      clear hA h64 h1 h2 h3 hl hn hr64 hG
      go_enter Tryz.func6, Tryz.ntmps6
      have c0_0 := K0.c8_0
      have c0_1 := K0.c8_1
      have c0_2 := K0.c8_2
      have c0_3 := K0.c8_3
      have c0_4 := K0.c8_4
      have c0_5 := K0.c8_5
      have c0_6 := K0.c8_6
      have c0_7 := K0.c8_7
      go_wp2_with fail
      clear c0_0 c0_1 c0_2 c0_3 c0_4 c0_5 c0_6 c0_7
      generalize ((w.alloc (.cells #[.slice am nm cm, .int .i64 q, .int .i64 bx, .int .i64 cy, .int .i64 lo, .int .i64 hi, .slice an nn cn, .slice al nl cl] 27)).alloc (.cells #[.slice a n ca] 25)) = V at *
      refine (HZ.out _).mono ?_
      rintro e w1 ⟨rfl, bl1⟩
      have P0_1 := K0.to bl1
      have P1_2 := K1.to bl1
      have b_3 := below_to bV bl1
      clear K0 K1 bV
      clear bl1 HZ
      have c1 := P1_2.cell0 (i := 0) (v := .slice a n ca) rfl
      go_wp2_with fail
      clear c1
      refine (HY.out _).mono ?_
      rintro e w2 ⟨rfl, bl2⟩
      have P0_4 := P0_1.to bl2
      have P1_5 := P1_2.to bl2
      have b_6 := below_to b_3 bl2
      clear P0_1 P1_2 b_3
      clear bl2 HY
      go_wp2
      go_cut [6] from 20 to 24 (fun s6 wx => s6 = .bool R ∧ Below w2.heap.size w2 wx)
      case first =>
        go_region_held3 (fun w' => w'.cell? ⟨w.heap.size, 0, none⟩ = some (.slice am nm cm) ∧ w'.cell? ⟨w.heap.size, 1, none⟩ = some (.int .i64 q) ∧ w'.cell? ⟨w.heap.size, 2, none⟩ = some (.int .i64 bx) ∧ w'.cell? ⟨w.heap.size, 3, none⟩ = some (.int .i64 cy) ∧ w'.cell? ⟨w.heap.size, 4, none⟩ = some (.int .i64 lo) ∧ w'.cell? ⟨w.heap.size, 5, none⟩ = some (.int .i64 hi) ∧ w'.cell? ⟨w.heap.size, 6, none⟩ = some (.slice an nn cn) ∧ w'.cell? ⟨w.heap.size, 7, none⟩ = some (.slice al nl cl) ∧ w'.cell? ⟨w.heap.size + 1, 0, none⟩ = some (.slice a n ca))
          ((refine room9 P0_4 P1_5 ?_; repeat (first | exact Below.refl _ _ | refine Below.setCell ?_ (by first | (simp; done) | (simp; omega)) _ | refine below_bx2 ?_ _ | refine below_drw ?_ | refine below_to ?_ (by assumption))))
          (first | (go_at_call 10; (with_reducible refine (HT.out _ ?_).mono ?_); (focus (repeat (first | exact b_6 | refine below_bx2 ?_ _ | refine below_drw ?_ | refine below_to ?_ (by assumption)))); rintro e wR ⟨amR, cmR, anR, cnR, alR, clR, rfl, hoR, blR⟩; have hsR := blR.size; (try simp at hsR)) | (go_at_call 11; (with_reducible refine (HTG.out _ ?_).mono ?_); (focus (repeat (first | exact b_6 | refine below_bx2 ?_ _ | refine below_drw ?_ | refine below_to ?_ (by assumption)))); rintro e wB ⟨aB, cB, rfl, hoB, blB⟩; have hsB := blB.size; (try simp at hsB)) | (go_at_call 22; (with_reducible refine (HS.out _ _ _ _ _ _ _ _ _ hoR.nil ?_ (own_nil hoB) ?_).mono ?_); (focus ((refine hoR.at.below ?_); repeat (first | exact Below.refl _ _ | refine Below.setCell ?_ (by first | (simp; done) | (simp; omega)) _ | refine below_bx2 ?_ _ | refine below_drw ?_ | refine below_to ?_ (by assumption)))); (focus ((refine (own_hs hoB).below ?_); repeat (first | exact Below.refl _ _ | refine Below.setCell ?_ (by first | (simp; done) | (simp; omega)) _ | refine below_bx2 ?_ _ | refine below_drw ?_ | refine below_to ?_ (by assumption)))); rintro e wC ⟨rfl, blC⟩))
        all_goals
          go_wp2_with fail
          go_meet
          refine ⟨rfl, ?_⟩
          refine below_to ?_ blC
          repeat (first | exact Below.refl _ _ | refine Below.setCell ?_ (by first | (simp; done) | (simp; omega)) _ | refine below_bx2 ?_ _ | refine below_drw ?_ | refine below_to ?_ (by assumption))
      case rest =>
        obtain ⟨rfl, hb6⟩ := hcut
        rename World => wc
        have P0_7 := P0_4.to hb6
        have P1_8 := P1_5.to hb6
        have b_9 := below_to b_6 hb6
        clear P0_4 P1_5 b_6
        have z6 := hb6.size
        clear hb6
        have y0 := P1_8.lt
        have c0 := P0_7.c8_0
        have c1 := P0_7.c8_1
        have c2 := P0_7.c8_2
        have c3 := P0_7.c8_3
        have c4 := P0_7.c8_4
        have c5 := P0_7.c8_5
        have c6 := P0_7.c8_6
        have c7 := P0_7.c8_7
        go_wp2_with fail
        clear c0 c1 c2 c3 c4 c5 c6 c7
        refine (HT.out _ b_9).mono ?_
        rintro e w4 ⟨am4, cm4, an4, cn4, al4, cl4, rfl, ho4, bl4⟩
        have bX := below_to bl4 (below_one w4 (.cells #[.slice am4 nm cm4, .int .i64 q, .int .i64 bx, .int .i64 cy, .int .i64 lo, .int .i64 hi, .slice an4 nn cn4, .slice al4 nl cl4] 36))
        have xr := Lib.hid ho4.rows_lt
        have z4 := bl4.size
        have KX := blk_new w4 #[.slice am4 nm cm4, .int .i64 q, .int .i64 bx, .int .i64 cy, .int .i64 lo, .int .i64 hi, .slice an4 nn cn4, .slice al4 nl cl4] 36 rfl
        have OX := Lib.hid (ho4.below (below_one w4 (.cells #[.slice am4 nm cm4, .int .i64 q, .int .i64 bx, .int .i64 cy, .int .i64 lo, .int .i64 hi, .slice an4 nn cn4, .slice al4 nl cl4] 36)))
        have y4 : (w4.alloc (.cells #[.slice am4 nm cm4, .int .i64 q, .int .i64 bx, .int .i64 cy, .int .i64 lo, .int .i64 hi, .slice an4 nn cn4, .slice al4 nl cl4] 36)).heap.size = w4.heap.size + 1 := by simp
        have P0_10 := P0_7.to bX
        have P1_11 := P1_8.to bX
        have b_12 := below_to b_9 bX
        clear P0_7 P1_8 b_9
        clear bX bl4 ho4
        have c8 := P1_11.cell0 (i := 0) (v := .slice a n ca) rfl
        go_wp2_with fail
        clear c8
        generalize w4.alloc (.cells #[.slice am4 nm cm4, .int .i64 q, .int .i64 bx, .int .i64 cy, .int .i64 lo, .int .i64 hi, .slice an4 nn cn4, .slice al4 nl cl4] 36) = X at *
        obtain ⟨ex, hex⟩ : ∃ b, w4.heap.size = b := ⟨_, rfl⟩
        rw [hex] at KX y4 z4 xr ⊢
        clear hex
        refine (HTG.out _ b_12).mono ?_
        rintro e w5 ⟨ay, cy1, rfl, ho5, bl5⟩
        have bY := below_to bl5 (below_one w5 (.cells #[.slice ay n cy1] 32))
        have xy := Lib.hid (fun p (h : (Value.slice ay n cy1).ownBlock = some p) => own_block_lt ho5 h)
        have z5 := bl5.size
        have KY := blk_new w5 #[.slice ay n cy1] 32 rfl
        have OY := Lib.hid (own_below ho5 (below_one w5 (.cells #[.slice ay n cy1] 32)))
        have y5 : (w5.alloc (.cells #[.slice ay n cy1] 32)).heap.size = w5.heap.size + 1 := by simp
        have P0_13 := P0_10.to bY
        have P1_14 := P1_11.to bY
        have b_15 := below_to b_12 bY
        have KX_16 := KX.to bY
        have OX_17 := Lib.hid (OX.out.below bY)
        clear P0_10 P1_11 b_12 KX OX
        clear bY bl5 ho5
        have c0 := KX_16.c8_0
        have c1 := KX_16.c8_1
        have c2 := KX_16.c8_2
        have c3 := KX_16.c8_3
        have c4 := KX_16.c8_4
        have c5 := KX_16.c8_5
        have c6 := KX_16.c8_6
        have c7 := KX_16.c8_7
        have c8 := KY.cell0 (i := 0) rfl
        go_wp2_with fail
        clear c0 c1 c2 c3 c4 c5 c6 c7 c8
        generalize w5.alloc (.cells #[.slice ay n cy1] 32) = Y at *
        obtain ⟨ey, hey⟩ : ∃ b, w5.heap.size = b := ⟨_, rfl⟩
        rw [hey] at KY y5 z5 xy ⊢
        clear hey
        refine (HI.out _ _ _ _ _ _ _ _ _ OX_17.out.at (own_nil OY.out) (own_hs OY.out)).mono ?_
        rintro e w7 ⟨rfl, bl7⟩
        have z7 := bl7.size
        have P0_18 := P0_13.to bl7
        have P1_19 := P1_14.to bl7
        have b_20 := below_to b_15 bl7
        have KX_21 := KX_16.to bl7
        have OX_22 := Lib.hid (OX_17.out.below bl7)
        have KY_23 := KY.to bl7
        have OY_24 := Lib.hid (own_below OY.out bl7)
        clear P0_13 P1_14 b_15 KX_16 OX_17 KY OY
        clear bl7
        go_wp2
        go_region_held3 (fun w' => w'.cell? ⟨ex, 0, none⟩ = some (.slice am4 nm cm4) ∧ w'.cell? ⟨ex, 1, none⟩ = some (.int .i64 q) ∧ w'.cell? ⟨ex, 2, none⟩ = some (.int .i64 bx) ∧ w'.cell? ⟨ex, 3, none⟩ = some (.int .i64 cy) ∧ w'.cell? ⟨ex, 4, none⟩ = some (.int .i64 lo) ∧ w'.cell? ⟨ex, 5, none⟩ = some (.int .i64 hi) ∧ w'.cell? ⟨ex, 6, none⟩ = some (.slice an4 nn cn4) ∧ w'.cell? ⟨ex, 7, none⟩ = some (.slice al4 nl cl4) ∧ w'.cell? ⟨w.heap.size, 0, none⟩ = some (.slice am nm cm) ∧ w'.cell? ⟨w.heap.size, 1, none⟩ = some (.int .i64 q) ∧ w'.cell? ⟨w.heap.size, 2, none⟩ = some (.int .i64 bx) ∧ w'.cell? ⟨w.heap.size, 3, none⟩ = some (.int .i64 cy) ∧ w'.cell? ⟨w.heap.size, 4, none⟩ = some (.int .i64 lo) ∧ w'.cell? ⟨w.heap.size, 5, none⟩ = some (.int .i64 hi) ∧ w'.cell? ⟨w.heap.size, 6, none⟩ = some (.slice an nn cn) ∧ w'.cell? ⟨w.heap.size, 7, none⟩ = some (.slice al nl cl))
          ((refine room16n KX_21 P0_18 ?_; repeat (first | exact Below.refl _ _ | refine below_drw ?_ | refine below_to ?_ (by assumption))))
          (first | (go_at_call 10; (with_reducible refine (HT.out _ ?_).mono ?_); (focus (repeat (first | exact b_20 | refine below_drw ?_ | refine below_to ?_ (by assumption)))); rintro e w8 ⟨am7, cm7, an7, cn7, al7, cl7, rfl, ho8, bl8⟩) | (go_at_call 14; (with_reducible refine (HE.out _ _ _ _ _ _ _ _ _ _ _ _ _ ?_ ?_).mono ?_); (focus ((refine OX_22.out.at.below ?_); repeat (first | exact Below.refl _ _ | refine below_drw ?_ | refine below_to ?_ (by assumption)))); (focus (exact ho8.at)); rintro e w9 ⟨rfl, bl9⟩))
        have blj : Below w7.heap.size w7 w9 := below_to (below_to (below_drw (Below.refl _ _)) bl8) bl9
        have z9 := blj.size
        have P0_25 := P0_18.to blj
        have P1_26 := P1_19.to blj
        have b_27 := below_to b_20 blj
        have KX_28 := KX_21.to blj
        have OX_29 := Lib.hid (OX_22.out.below blj)
        have KY_30 := KY_23.to blj
        have OY_31 := Lib.hid (own_below OY_24.out blj)
        clear P0_18 P1_19 b_20 KX_21 OX_22 KY_23 OY_24
        clear bl8 bl9 blj ho8
        go_wp2
        go_region_held3 (fun w' => w'.cell? ⟨ey, 0, none⟩ = some (.slice ay n cy1) ∧ w'.cell? ⟨w.heap.size + 1, 0, none⟩ = some (.slice a n ca))
          ((refine twoc (KY_30.cell0 (i := 0) rfl) (P1_26.cell0 (i := 0) rfl) ?_; repeat (first | exact Below.refl _ _ | refine below_drw ?_ | refine below_to ?_ (by assumption))))
          (first | (go_at_call 11; (with_reducible refine (HTG.out _ ?_).mono ?_); (focus (repeat (first | exact b_27 | refine below_drw ?_ | refine below_to ?_ (by assumption)))); rintro e w10 ⟨ao10, cp10, rfl, ho10, bl10⟩) | (go_at_call 13; (with_reducible refine (HEG.out _ _ _ _ _ ?_ ?_).mono ?_); (focus ((refine (own_hs OY_31.out).below ?_); repeat (first | exact Below.refl _ _ | refine below_drw ?_ | refine below_to ?_ (by assumption)))); (focus (exact own_hs ho10)); rintro e w11 ⟨rfl, bl11⟩))
        all_goals
          go_wp2
          go_ret
          refine ⟨rfl, ?_⟩
          repeat (first | exact b_27 | refine below_drw ?_ | refine below_to ?_ (by assumption))
    · have HZ := Lib.hid (fun V => sz_room am nm cm q bx cy lo hi an nn cn al nl cl V h1 h2 h3 1048576 (by omega) (by omega) (1048576 - nm - nn - nl) (by rw [if_pos hle]))
      have HY := Lib.hid (fun V => sz_region a n ca V hn (1048576 - nm - nn - nl) (by omega) (by omega) (-1) (by rw [if_neg hle2]))
      have hz1 : ¬ (1048576 - (nm : Int) - nn - nl < 0) := by omega
      clear hA h64 h1 h2 h3 hle hle2 hl hn hr64 hG
      go_enter Tryz.func6, Tryz.ntmps6
      have c0_0 := K0.c8_0
      have c0_1 := K0.c8_1
      have c0_2 := K0.c8_2
      have c0_3 := K0.c8_3
      have c0_4 := K0.c8_4
      have c0_5 := K0.c8_5
      have c0_6 := K0.c8_6
      have c0_7 := K0.c8_7
      go_wp2_with fail
      generalize ((w.alloc (.cells #[.slice am nm cm, .int .i64 q, .int .i64 bx, .int .i64 cy, .int .i64 lo, .int .i64 hi, .slice an nn cn, .slice al nl cl] 27)).alloc (.cells #[.slice a n ca] 25)) = V at *
      refine (HZ.out _).mono ?_
      rintro e w1 ⟨rfl, bl1⟩
      have b1 := below_to bV bl1
      have L1 := K1.to bl1
      clear c0_0 c0_1 c0_2 c0_3 c0_4 c0_5 c0_6 c0_7
      have c1 := L1.cell0 (i := 0) (v := .slice a n ca) rfl
      go_wp2_with fail
      refine (HY.out _).mono ?_
      rintro e w2 ⟨rfl, bl2⟩
      have b2 := below_to b1 bl2
      go_wp2
      go_ret
      exact ⟨rfl, b2⟩
  · have HZ := Lib.hid (fun V => sz_room am nm cm q bx cy lo hi an nn cn al nl cl V h1 h2 h3 1048576 (by omega) (by omega) (-1) (by rw [if_neg hle]))
    clear hA h64 h1 h2 h3 hle hl hn hr64 hG
    go_enter Tryz.func6, Tryz.ntmps6
    have c0_0 := K0.c8_0
    have c0_1 := K0.c8_1
    have c0_2 := K0.c8_2
    have c0_3 := K0.c8_3
    have c0_4 := K0.c8_4
    have c0_5 := K0.c8_5
    have c0_6 := K0.c8_6
    have c0_7 := K0.c8_7
    go_wp2_with fail
    generalize ((w.alloc (.cells #[.slice am nm cm, .int .i64 q, .int .i64 bx, .int .i64 cy, .int .i64 lo, .int .i64 hi, .slice an nn cn, .slice al nl cl] 27)).alloc (.cells #[.slice a n ca] 25)) = V at *
    refine (HZ.out _).mono ?_
    rintro e w1 ⟨rfl, bl1⟩
    have b1 := below_to bV bl1
    go_wp2
    go_ret
    exact ⟨rfl, b1⟩
end Go.Proofs.YtceeninhjlonbaaGreat
