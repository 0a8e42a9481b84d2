/- The walk of the law of IsHeld. -/
import Derived.Test.YtceeninhjlonbaaXb
import Derived.Test.YtceeninhjlonbaaMw
namespace Go.Proofs.Ytceeninhjlonbaa
open Go.RowKit
open Geo (H3)

theorem room16n {V X : World} {B C : Nat} {a0 a1 a2 a3 a4 a5 a6 a7 b0 b1 b2 b3 b4 b5 b6 b7 : Value} {T U : TypeId} (h : Blk V B #[a0, a1, a2, a3, a4, a5, a6, a7] T) (k : Blk V C #[b0, b1, b2, b3, b4, b5, b6, b7] U) (hb : Below V.heap.size V X) :
    X.cell? ⟨B, 0, none⟩ = some a0 ∧ X.cell? ⟨B, 1, none⟩ = some a1 ∧ X.cell? ⟨B, 2, none⟩ = some a2 ∧ X.cell? ⟨B, 3, none⟩ = some a3 ∧ X.cell? ⟨B, 4, none⟩ = some a4 ∧ X.cell? ⟨B, 5, none⟩ = some a5 ∧ X.cell? ⟨B, 6, none⟩ = some a6 ∧ X.cell? ⟨B, 7, none⟩ = some a7 ∧ X.cell? ⟨C, 0, none⟩ = some b0 ∧ X.cell? ⟨C, 1, none⟩ = some b1 ∧ X.cell? ⟨C, 2, none⟩ = some b2 ∧ X.cell? ⟨C, 3, none⟩ = some b3 ∧ X.cell? ⟨C, 4, none⟩ = some b4 ∧ X.cell? ⟨C, 5, none⟩ = some b5 ∧ X.cell? ⟨C, 6, none⟩ = some b6 ∧ X.cell? ⟨C, 7, none⟩ = some b7 :=
  ⟨(h.to hb).c8_0, (h.to hb).c8_1, (h.to hb).c8_2, (h.to hb).c8_3, (h.to hb).c8_4, (h.to hb).c8_5, (h.to hb).c8_6, (h.to hb).c8_7, (k.to hb).c8_0, (k.to hb).c8_1, (k.to hb).c8_2, (k.to hb).c8_3, (k.to hb).c8_4, (k.to hb).c8_5, (k.to hb).c8_6, (k.to hb).c8_7⟩
theorem keep14 {V X : World} {B C D E : Nat} {a0 a1 a2 a3 a4 a5 a6 a7 b0 b1 b2 c0 c1 d0 : Value} {T U T' U' : TypeId} (h : Blk V B #[a0, a1, a2, a3, a4, a5, a6, a7] T) (k : Blk V C #[b0, b1, b2] U) (l : Blk V D #[c0, c1] T') (m : Blk V E #[d0] U') (hb : Below V.heap.size V X) :
    X.cell? ⟨B, 0, none⟩ = some a0 ∧ X.cell? ⟨B, 1, none⟩ = some a1 ∧ X.cell? ⟨B, 2, none⟩ = some a2 ∧ X.cell? ⟨B, 3, none⟩ = some a3 ∧ X.cell? ⟨B, 4, none⟩ = some a4 ∧ X.cell? ⟨B, 5, none⟩ = some a5 ∧ X.cell? ⟨B, 6, none⟩ = some a6 ∧ X.cell? ⟨B, 7, none⟩ = some a7 ∧ X.cell? ⟨C, 0, none⟩ = some b0 ∧ X.cell? ⟨C, 1, none⟩ = some b1 ∧ X.cell? ⟨C, 2, none⟩ = some b2 ∧ X.cell? ⟨D, 0, none⟩ = some c0 ∧ X.cell? ⟨D, 1, none⟩ = some c1 ∧ X.cell? ⟨E, 0, none⟩ = some d0 :=
  ⟨(h.to hb).c8_0, (h.to hb).c8_1, (h.to hb).c8_2, (h.to hb).c8_3, (h.to hb).c8_4, (h.to hb).c8_5, (h.to hb).c8_6, (h.to hb).c8_7, (k.to hb).cell0 rfl, (k.to hb).cell0 rfl, (k.to hb).cell0 rfl, (l.to hb).cell0 rfl, (l.to hb).cell0 rfl, (m.to hb).cell0 rfl⟩
set_option maxRecDepth 100000 in
set_option maxHeartbeats 12800000 in
theorem law_ih (am : Option Addr) (nm cm : Nat) (zs : List Int) (q bx cy lo hi : Int) (an : Option Addr) (nn cn : Nat) (ps : List H3) (al : Option Addr) (nl cl : Nat) (qs : List H3) (sX sY sD uN uD : Int) (a : Option Addr) (n ca : Nat) (rs : List H3) (wsX : (Lit.int .i64 sX).wf = true) (wsY : (Lit.int .i64 sY).wf = true) (wsD : (Lit.int .i64 sD).wf = true) (wuN : (Lit.int .i64 uN).wf = true) (wuD : (Lit.int .i64 uD).wf = true) (w : World) (h64 : R64 q bx cy lo hi ps qs) (h1 : nm ≤ maxLen) (h2 : nn ≤ maxLen) (h3 : nl ≤ maxLen) (hA : RAt w am nm zs an nn ps al nl qs) (hl : rs.length = n) (hn : n ≤ maxLen) (hr64 : ∀ h ∈ rs, In64 h) (hG : HsAt w a rs) :
    Calls Try.prog 3 #[.agg #[.slice am nm cm, .int .i64 q, .int .i64 bx, .int .i64 cy, .int .i64 lo, .int .i64 hi, .slice an nn cn, .slice al nl cl], .agg #[.int .i64 sX, .int .i64 sY, .int .i64 sD], .agg #[.int .i64 uN, .int .i64 uD], .agg #[.slice a n ca]] w fun e w' => e = .returned (.bool true) ∧ Below w.heap.size w w' := by
  have bV := below_bx2 (below_bx2 (below_bx2 (below_one w (.cells #[.slice am nm cm, .int .i64 q, .int .i64 bx, .int .i64 cy, .int .i64 lo, .int .i64 hi, .slice an nn cn, .slice al nl cl] 27)) (.cells #[.int .i64 sX, .int .i64 sY, .int .i64 sD] 29)) (.cells #[.int .i64 uN, .int .i64 uD] 31)) (.cells #[.slice a n ca] 25)
  have K0 := (((blk_new w #[.slice am nm cm, .int .i64 q, .int .i64 bx, .int .i64 cy, .int .i64 lo, .int .i64 hi, .slice an nn cn, .slice al nl cl] 27 (b := w.heap.size) (by simp)).to (below_one _ (.cells #[.int .i64 sX, .int .i64 sY, .int .i64 sD] 29))).to (below_one _ (.cells #[.int .i64 uN, .int .i64 uD] 31))).to (below_one _ (.cells #[.slice a n ca] 25))
  have K1 := ((blk_new (w.alloc (.cells #[.slice am nm cm, .int .i64 q, .int .i64 bx, .int .i64 cy, .int .i64 lo, .int .i64 hi, .slice an nn cn, .slice al nl cl] 27)) #[.int .i64 sX, .int .i64 sY, .int .i64 sD] 29 (b := w.heap.size + 1) (by simp)).to (below_one _ (.cells #[.int .i64 uN, .int .i64 uD] 31))).to (below_one _ (.cells #[.slice a n ca] 25))
  have K2 := (blk_new ((w.alloc (.cells #[.slice am nm cm, .int .i64 q, .int .i64 bx, .int .i64 cy, .int .i64 lo, .int .i64 hi, .slice an nn cn, .slice al nl cl] 27)).alloc (.cells #[.int .i64 sX, .int .i64 sY, .int .i64 sD] 29)) #[.int .i64 uN, .int .i64 uD] 31 (b := w.heap.size + 1 + 1) (by simp)).to (below_one _ (.cells #[.slice a n ca] 25))
  have K3 := blk_new (((w.alloc (.cells #[.slice am nm cm, .int .i64 q, .int .i64 bx, .int .i64 cy, .int .i64 lo, .int .i64 hi, .slice an nn cn, .slice al nl cl] 27)).alloc (.cells #[.int .i64 sX, .int .i64 sY, .int .i64 sD] 29)).alloc (.cells #[.int .i64 uN, .int .i64 uD] 31)) #[.slice a n ca] 25 (b := w.heap.size + 1 + 1 + 1) (by simp)
  by_cases hle : (nm : Int) + nn + nl ≤ 1048576
  · by_cases hle2 : (n : Int) ≤ 1048576 - nm - nn - nl
    · have HZ := Lib.hid (fun V => sz_room am nm cm q bx cy lo hi an nn cn al nl cl V h1 h2 h3 1048576 (by omega) (by omega) (1048576 - nm - nn - nl) (by rw [if_pos hle]))
      have HY := Lib.hid (fun V => sz_region a n ca V hn (1048576 - nm - nn - nl) (by omega) (by omega) (1048576 - nm - nn - nl - n) (by rw [if_pos hle2]))
      have HT := Lib.hid (fun V (h : Below w.heap.size w V) => to_room am nm cm zs q bx cy lo hi an nn cn ps al nl cl qs V (hA.below h) (by omega))
      have HTG := Lib.hid (fun V (h : Below w.heap.size w V) => to_region2 a n ca rs V hl (by omega) (hG.below h))
      have HE := Lib.hid (fun V am1 cm1 an1 cn1 al1 cl1 am2 cm2 an2 cn2 al2 cl2 (k1 : RAt V am1 nm zs an1 nn ps al1 nl qs) (k2 : RAt V am2 nm zs an2 nn ps al2 nl qs) => eq_room am1 nm cm1 zs q bx cy lo hi an1 nn cn1 ps al1 nl cl1 qs am2 cm2 an2 cn2 al2 cl2 V k1 k2 (by omega))
      have HEG := Lib.hid (fun V a1 a2 c1 c2 (k1 : HsAt V a1 rs) (k2 : HsAt V a2 rs) => eq_region a1 a2 n c1 c2 rs V hl (by omega) k1 k2)
      have HS := Lib.hid (fun V am1 cm1 an1 cn1 al1 cl1 a1 c1 (k0 : RNil am1 nm cm1 an1 nn cn1 al1 nl cl1) (k1 : RAt V am1 nm zs an1 nn ps al1 nl qs) (g0 : a1 = none → n = 0 ∧ c1 = 0) (g1 : HsAt V a1 rs) => spec_ih am1 nm cm1 zs q bx cy lo hi an1 nn cn1 ps al1 nl cl1 qs sX sY sD uN uD a1 n c1 rs V k1 h64 (by omega) ⟨bounds_i64 wsX, bounds_i64 wsY, bounds_i64 wsD⟩ ⟨bounds_i64 wuN, bounds_i64 wuD⟩ hl (by omega) hr64 g0 g1 k0)
      have HI := Lib.hid (fun V am1 cm1 an1 cn1 al1 cl1 a1 c1 (k1 : RAt V am1 nm zs an1 nn ps al1 nl qs) (g1 : HsAt V a1 rs) => impl_ih am1 nm cm1 zs q bx cy lo hi an1 nn cn1 ps al1 nl cl1 qs sX sY sD uN uD a1 n c1 rs V k1 h64 (by omega) ⟨bounds_i64 wsX, bounds_i64 wsY, bounds_i64 wsD⟩ ⟨bounds_i64 wuN, bounds_i64 wuD⟩ hl (by omega) hr64 g1)
      generalize ihB zs q bx cy lo hi ps qs sX sY sD uN uD rs = R at *
      have hz1 : ¬ (1048576 - (nm : Int) - nn - nl < 0) := by omega
      have hz2 : ¬ (1048576 - (nm : Int) - nn - nl - n < 0) := by omega
      clear wsX wsY wsD wuN wuD hA h64 h1 h2 h3 hl hn hr64 hG
      go_enter Try.func3, Try.ntmps3
      have c0_0 := K0.c8_0
      have c0_1 := K0.c8_1
      have c0_2 := K0.c8_2
      have c0_3 := K0.c8_3
      have c0_4 := K0.c8_4
      have c0_5 := K0.c8_5
      have c0_6 := K0.c8_6
      have c0_7 := K0.c8_7
      go_wp2_with fail
      clear c0_0 c0_1 c0_2 c0_3 c0_4 c0_5 c0_6 c0_7
      generalize ((((w.alloc (.cells #[.slice am nm cm, .int .i64 q, .int .i64 bx, .int .i64 cy, .int .i64 lo, .int .i64 hi, .slice an nn cn, .slice al nl cl] 27)).alloc (.cells #[.int .i64 sX, .int .i64 sY, .int .i64 sD] 29)).alloc (.cells #[.int .i64 uN, .int .i64 uD] 31)).alloc (.cells #[.slice a n ca] 25)) = V at *
      refine (HZ.out _).mono ?_
      rintro e w1 ⟨rfl, bl1⟩
      have P0_1 := K0.to bl1
      have P1_2 := K1.to bl1
      have P2_3 := K2.to bl1
      have P3_4 := K3.to bl1
      have b_5 := below_to bV bl1
      clear K0 K1 K2 K3 bV
      clear bl1 HZ
      have c1 := P3_4.cell0 (i := 0) (v := .slice a n ca) rfl
      go_wp2_with fail
      clear c1
      refine (HY.out _).mono ?_
      rintro e w2 ⟨rfl, bl2⟩
      have P0_6 := P0_1.to bl2
      have P1_7 := P1_2.to bl2
      have P2_8 := P2_3.to bl2
      have P3_9 := P3_4.to bl2
      have b_10 := below_to b_5 bl2
      clear P0_1 P1_2 P2_3 P3_4 b_5
      clear bl2 HY
      go_wp2
      go_cut [10] from 24 to 32 (fun s6 wx => s6 = .bool R ∧ Below w2.heap.size w2 wx)
      case first =>
        go_region_held3 (fun w' => w'.cell? ⟨w.heap.size, 0, none⟩ = some (.slice am nm cm) ∧ w'.cell? ⟨w.heap.size, 1, none⟩ = some (.int .i64 q) ∧ w'.cell? ⟨w.heap.size, 2, none⟩ = some (.int .i64 bx) ∧ w'.cell? ⟨w.heap.size, 3, none⟩ = some (.int .i64 cy) ∧ w'.cell? ⟨w.heap.size, 4, none⟩ = some (.int .i64 lo) ∧ w'.cell? ⟨w.heap.size, 5, none⟩ = some (.int .i64 hi) ∧ w'.cell? ⟨w.heap.size, 6, none⟩ = some (.slice an nn cn) ∧ w'.cell? ⟨w.heap.size, 7, none⟩ = some (.slice al nl cl) ∧ w'.cell? ⟨w.heap.size + 1, 0, none⟩ = some (.int .i64 sX) ∧ w'.cell? ⟨w.heap.size + 1, 1, none⟩ = some (.int .i64 sY) ∧ w'.cell? ⟨w.heap.size + 1, 2, none⟩ = some (.int .i64 sD) ∧ w'.cell? ⟨w.heap.size + 1 + 1, 0, none⟩ = some (.int .i64 uN) ∧ w'.cell? ⟨w.heap.size + 1 + 1, 1, none⟩ = some (.int .i64 uD) ∧ w'.cell? ⟨w.heap.size + 1 + 1 + 1, 0, none⟩ = some (.slice a n ca))
          ((refine keep14 P0_6 P1_7 P2_8 P3_9 ?_; repeat (first | exact Below.refl _ _ | refine below_drw ?_ | refine below_to ?_ (by assumption))))
          (first | (go_at_call 14; (with_reducible refine (HT.out _ ?_).mono ?_); (focus (repeat (first | exact b_10 | refine below_drw ?_ | refine below_to ?_ (by assumption)))); rintro e wR ⟨amR, cmR, anR, cnR, alR, clR, rfl, hoR, blR⟩) | (go_at_call 15; (with_reducible refine (to_spot sX sY sD _).mono ?_); rintro e wA ⟨rfl, blA⟩) | (go_at_call 16; (with_reducible refine (to_ratio uN uD _).mono ?_); rintro e wU ⟨rfl, blU⟩) | (go_at_call 17; (with_reducible refine (HTG.out _ ?_).mono ?_); (focus (repeat (first | exact b_10 | refine below_drw ?_ | refine below_to ?_ (by assumption)))); rintro e wB ⟨aB, cB, rfl, hoB, blB⟩) | (go_at_call 13; (with_reducible refine (HS.out _ _ _ _ _ _ _ _ _ hoR.nil ?_ (own_nil hoB) ?_).mono ?_); (focus ((refine hoR.at.below ?_); repeat (first | exact Below.refl _ _ | refine below_drw ?_ | refine below_to ?_ (by assumption)))); (focus ((refine (own_hs hoB).below ?_); repeat (first | exact Below.refl _ _ | refine below_drw ?_ | refine below_to ?_ (by assumption)))); rintro e wC ⟨rfl, blC⟩))
        all_goals
          go_wp2_with fail
          go_meet
          refine ⟨rfl, ?_⟩
          refine below_to ?_ blC
          repeat (first | exact Below.refl _ _ | refine below_drw ?_ | refine below_to ?_ (by assumption))
      case rest =>
        obtain ⟨rfl, hb6⟩ := hcut
        rename World => wc
        have P0_11 := P0_6.to hb6
        have P1_12 := P1_7.to hb6
        have P2_13 := P2_8.to hb6
        have P3_14 := P3_9.to hb6
        have b_15 := below_to b_10 hb6
        clear P0_6 P1_7 P2_8 P3_9 b_10
        clear hb6
        have c0 := P0_11.c8_0
        have c1 := P0_11.c8_1
        have c2 := P0_11.c8_2
        have c3 := P0_11.c8_3
        have c4 := P0_11.c8_4
        have c5 := P0_11.c8_5
        have c6 := P0_11.c8_6
        have c7 := P0_11.c8_7
        go_wp2_with fail
        clear c0 c1 c2 c3 c4 c5 c6 c7
        refine (HT.out _ b_15).mono ?_
        rintro e w4 ⟨am4, cm4, an4, cn4, al4, cl4, rfl, ho4, bl4⟩
        have bX := below_to bl4 (below_one w4 (.cells #[.slice am4 nm cm4, .int .i64 q, .int .i64 bx, .int .i64 cy, .int .i64 lo, .int .i64 hi, .slice an4 nn cn4, .slice al4 nl cl4] 39))
        have KX := blk_new w4 #[.slice am4 nm cm4, .int .i64 q, .int .i64 bx, .int .i64 cy, .int .i64 lo, .int .i64 hi, .slice an4 nn cn4, .slice al4 nl cl4] 39 rfl
        have OX := Lib.hid (ho4.below (below_one w4 (.cells #[.slice am4 nm cm4, .int .i64 q, .int .i64 bx, .int .i64 cy, .int .i64 lo, .int .i64 hi, .slice an4 nn cn4, .slice al4 nl cl4] 39)))
        have P0_16 := P0_11.to bX
        have P1_17 := P1_12.to bX
        have P2_18 := P2_13.to bX
        have P3_19 := P3_14.to bX
        have b_20 := below_to b_15 bX
        clear P0_11 P1_12 P2_13 P3_14 b_15
        clear bX bl4 ho4
        have c8 := P3_19.cell0 (i := 0) (v := .slice a n ca) rfl
        go_wp2_with fail
        clear c8
        generalize w4.alloc (.cells #[.slice am4 nm cm4, .int .i64 q, .int .i64 bx, .int .i64 cy, .int .i64 lo, .int .i64 hi, .slice an4 nn cn4, .slice al4 nl cl4] 39) = X at *
        obtain ⟨ex, hex⟩ : ∃ b, w4.heap.size = b := ⟨_, rfl⟩
        rw [hex] at KX ⊢
        clear hex
        refine (HTG.out _ b_20).mono ?_
        rintro e w5 ⟨ay, cy1, rfl, ho5, bl5⟩
        have bY := below_to bl5 (below_one w5 (.cells #[.slice ay n cy1] 37))
        have KY := blk_new w5 #[.slice ay n cy1] 37 rfl
        have OY := Lib.hid (own_below ho5 (below_one w5 (.cells #[.slice ay n cy1] 37)))
        have P0_21 := P0_16.to bY
        have P1_22 := P1_17.to bY
        have P2_23 := P2_18.to bY
        have P3_24 := P3_19.to bY
        have b_25 := below_to b_20 bY
        have KX_26 := KX.to bY
        have OX_27 := Lib.hid (OX.out.below bY)
        clear P0_16 P1_17 P2_18 P3_19 b_20 KX OX
        clear bY bl5 ho5
        go_wp2
        generalize w5.alloc (.cells #[.slice ay n cy1] 37) = Y at *
        obtain ⟨ey, hey⟩ : ∃ b, w5.heap.size = b := ⟨_, rfl⟩
        rw [hey] at KY ⊢
        clear hey
        go_cut [13] from 37 to 43 (fun s6 wx => s6 = .bool R ∧ Below Y.heap.size Y wx)
        case first =>
          go_region_held3 (fun w' => w'.cell? ⟨ex, 0, none⟩ = some (.slice am4 nm cm4) ∧ w'.cell? ⟨ex, 1, none⟩ = some (.int .i64 q) ∧ w'.cell? ⟨ex, 2, none⟩ = some (.int .i64 bx) ∧ w'.cell? ⟨ex, 3, none⟩ = some (.int .i64 cy) ∧ w'.cell? ⟨ex, 4, none⟩ = some (.int .i64 lo) ∧ w'.cell? ⟨ex, 5, none⟩ = some (.int .i64 hi) ∧ w'.cell? ⟨ex, 6, none⟩ = some (.slice an4 nn cn4) ∧ w'.cell? ⟨ex, 7, none⟩ = some (.slice al4 nl cl4) ∧ w'.cell? ⟨w.heap.size + 1, 0, none⟩ = some (.int .i64 sX) ∧ w'.cell? ⟨w.heap.size + 1, 1, none⟩ = some (.int .i64 sY) ∧ w'.cell? ⟨w.heap.size + 1, 2, none⟩ = some (.int .i64 sD) ∧ w'.cell? ⟨w.heap.size + 1 + 1, 0, none⟩ = some (.int .i64 uN) ∧ w'.cell? ⟨w.heap.size + 1 + 1, 1, none⟩ = some (.int .i64 uD) ∧ w'.cell? ⟨ey, 0, none⟩ = some (.slice ay n cy1))
            ((refine keep14 KX_26 P1_22 P2_23 KY ?_; repeat (first | exact Below.refl _ _ | refine below_drw ?_ | refine below_to ?_ (by assumption))))
            (first | (go_at_call 15; (with_reducible refine (to_spot sX sY sD _).mono ?_); rintro e wA ⟨rfl, blA⟩) | (go_at_call 16; (with_reducible refine (to_ratio uN uD _).mono ?_); rintro e wU ⟨rfl, blU⟩) | (go_at_call 18; (with_reducible refine (HI.out _ _ _ _ _ _ _ _ _ ?_ ?_).mono ?_); (focus ((refine OX_27.out.at.below ?_); repeat (first | exact Below.refl _ _ | refine below_drw ?_ | refine below_to ?_ (by assumption)))); (focus ((refine (own_hs OY.out).below ?_); repeat (first | exact Below.refl _ _ | refine below_drw ?_ | refine below_to ?_ (by assumption)))); rintro e wC ⟨rfl, blC⟩))
          all_goals
            go_wp2_with fail
            go_meet
            refine ⟨rfl, ?_⟩
            refine below_to ?_ blC
            repeat (first | exact Below.refl _ _ | refine below_drw ?_ | refine below_to ?_ (by assumption))
        case rest =>
          obtain ⟨rfl, hb7⟩ := hcut
          rename World => w7
          have P0_28 := P0_21.to hb7
          have P1_29 := P1_22.to hb7
          have P2_30 := P2_23.to hb7
          have P3_31 := P3_24.to hb7
          have b_32 := below_to b_25 hb7
          have KX_33 := KX_26.to hb7
          have OX_34 := Lib.hid (OX_27.out.below hb7)
          have KY_35 := KY.to hb7
          have OY_36 := Lib.hid (own_below OY.out hb7)
          clear P0_21 P1_22 P2_23 P3_24 b_25 KX_26 OX_27 KY OY
          clear hb7
          go_wp2
          go_region_held3 (fun w' => w'.cell? ⟨ex, 0, none⟩ = some (.slice am4 nm cm4) ∧ w'.cell? ⟨ex, 1, none⟩ = some (.int .i64 q) ∧ w'.cell? ⟨ex, 2, none⟩ = some (.int .i64 bx) ∧ w'.cell? ⟨ex, 3, none⟩ = some (.int .i64 cy) ∧ w'.cell? ⟨ex, 4, none⟩ = some (.int .i64 lo) ∧ w'.cell? ⟨ex, 5, none⟩ = some (.int .i64 hi) ∧ w'.cell? ⟨ex, 6, none⟩ = some (.slice an4 nn cn4) ∧ w'.cell? ⟨ex, 7, none⟩ = some (.slice al4 nl cl4) ∧ w'.cell? ⟨w.heap.size, 0, none⟩ = some (.slice am nm cm) ∧ w'.cell? ⟨w.heap.size, 1, none⟩ = some (.int .i64 q) ∧ w'.cell? ⟨w.heap.size, 2, none⟩ = some (.int .i64 bx) ∧ w'.cell? ⟨w.heap.size, 3, none⟩ = some (.int .i64 cy) ∧ w'.cell? ⟨w.heap.size, 4, none⟩ = some (.int .i64 lo) ∧ w'.cell? ⟨w.heap.size, 5, none⟩ = some (.int .i64 hi) ∧ w'.cell? ⟨w.heap.size, 6, none⟩ = some (.slice an nn cn) ∧ w'.cell? ⟨w.heap.size, 7, none⟩ = some (.slice al nl cl))
            ((refine room16n KX_33 P0_28 ?_; repeat (first | exact Below.refl _ _ | refine below_drw ?_ | refine below_to ?_ (by assumption))))
            (first | (go_at_call 14; (with_reducible refine (HT.out _ ?_).mono ?_); (focus (repeat (first | exact b_32 | refine below_drw ?_ | refine below_to ?_ (by assumption)))); rintro e w8 ⟨am7, cm7, an7, cn7, al7, cl7, rfl, ho8, bl8⟩) | (go_at_call 19; (with_reducible refine (HE.out _ _ _ _ _ _ _ _ _ _ _ _ _ ?_ ?_).mono ?_); (focus ((refine OX_34.out.at.below ?_); repeat (first | exact Below.refl _ _ | refine below_drw ?_ | refine below_to ?_ (by assumption)))); (focus (exact ho8.at)); rintro e w9 ⟨rfl, bl9⟩))
          have blj : Below w7.heap.size w7 w9 := below_to (below_to (below_drw (Below.refl _ _)) bl8) bl9
          have P0_37 := P0_28.to blj
          have P1_38 := P1_29.to blj
          have P2_39 := P2_30.to blj
          have P3_40 := P3_31.to blj
          have b_41 := below_to b_32 blj
          have KX_42 := KX_33.to blj
          have OX_43 := Lib.hid (OX_34.out.below blj)
          have KY_44 := KY_35.to blj
          have OY_45 := Lib.hid (own_below OY_36.out blj)
          clear P0_28 P1_29 P2_30 P3_31 b_32 KX_33 OX_34 KY_35 OY_36
          clear bl8 bl9 blj ho8
          go_wp2
          go_region_held3 (fun w' => w'.cell? ⟨ey, 0, none⟩ = some (.slice ay n cy1) ∧ w'.cell? ⟨w.heap.size + 1 + 1 + 1, 0, none⟩ = some (.slice a n ca))
            ((refine twoc (KY_44.cell0 (i := 0) rfl) (P3_40.cell0 (i := 0) rfl) ?_; repeat (first | exact Below.refl _ _ | refine below_drw ?_ | refine below_to ?_ (by assumption))))
            (first | (go_at_call 17; (with_reducible refine (HTG.out _ ?_).mono ?_); (focus (repeat (first | exact b_41 | refine below_drw ?_ | refine below_to ?_ (by assumption)))); rintro e w10 ⟨ao10, cp10, rfl, ho10, bl10⟩) | (go_at_call 20; (with_reducible refine (HEG.out _ _ _ _ _ ?_ ?_).mono ?_); (focus ((refine (own_hs OY_45.out).below ?_); repeat (first | exact Below.refl _ _ | refine below_drw ?_ | refine below_to ?_ (by assumption)))); (focus (exact own_hs ho10)); rintro e w11 ⟨rfl, bl11⟩))
          all_goals
            go_wp2
            go_ret
            refine ⟨rfl, ?_⟩
            repeat (first | exact b_41 | refine below_drw ?_ | refine below_to ?_ (by assumption))
    · have HZ := Lib.hid (fun V => sz_room am nm cm q bx cy lo hi an nn cn al nl cl V h1 h2 h3 1048576 (by omega) (by omega) (1048576 - nm - nn - nl) (by rw [if_pos hle]))
      have HY := Lib.hid (fun V => sz_region a n ca V hn (1048576 - nm - nn - nl) (by omega) (by omega) (-1) (by rw [if_neg hle2]))
      have hz1 : ¬ (1048576 - (nm : Int) - nn - nl < 0) := by omega
      clear wsX wsY wsD wuN wuD hA h64 h1 h2 h3 hl hn hr64 hG hle hle2
      go_enter Try.func3, Try.ntmps3
      have c0_0 := K0.c8_0
      have c0_1 := K0.c8_1
      have c0_2 := K0.c8_2
      have c0_3 := K0.c8_3
      have c0_4 := K0.c8_4
      have c0_5 := K0.c8_5
      have c0_6 := K0.c8_6
      have c0_7 := K0.c8_7
      go_wp2_with fail
      generalize ((((w.alloc (.cells #[.slice am nm cm, .int .i64 q, .int .i64 bx, .int .i64 cy, .int .i64 lo, .int .i64 hi, .slice an nn cn, .slice al nl cl] 27)).alloc (.cells #[.int .i64 sX, .int .i64 sY, .int .i64 sD] 29)).alloc (.cells #[.int .i64 uN, .int .i64 uD] 31)).alloc (.cells #[.slice a n ca] 25)) = V at *
      refine (HZ.out _).mono ?_
      rintro e w1 ⟨rfl, bl1⟩
      have b1 := below_to bV bl1
      have L1 := K3.to bl1
      clear c0_0 c0_1 c0_2 c0_3 c0_4 c0_5 c0_6 c0_7
      have c1 := L1.cell0 (i := 0) (v := .slice a n ca) rfl
      go_wp2_with fail
      refine (HY.out _).mono ?_
      rintro e w2 ⟨rfl, bl2⟩
      have b2 := below_to b1 bl2
      go_wp2
      go_ret
      exact ⟨rfl, b2⟩
  · have HZ := Lib.hid (fun V => sz_room am nm cm q bx cy lo hi an nn cn al nl cl V h1 h2 h3 1048576 (by omega) (by omega) (-1) (by rw [if_neg hle]))
    clear wsX wsY wsD wuN wuD hA h64 h1 h2 h3 hl hn hr64 hG hle
    go_enter Try.func3, Try.ntmps3
    have c0_0 := K0.c8_0
    have c0_1 := K0.c8_1
    have c0_2 := K0.c8_2
    have c0_3 := K0.c8_3
    have c0_4 := K0.c8_4
    have c0_5 := K0.c8_5
    have c0_6 := K0.c8_6
    have c0_7 := K0.c8_7
    go_wp2_with fail
    generalize ((((w.alloc (.cells #[.slice am nm cm, .int .i64 q, .int .i64 bx, .int .i64 cy, .int .i64 lo, .int .i64 hi, .slice an nn cn, .slice al nl cl] 27)).alloc (.cells #[.int .i64 sX, .int .i64 sY, .int .i64 sD] 29)).alloc (.cells #[.int .i64 uN, .int .i64 uD] 31)).alloc (.cells #[.slice a n ca] 25)) = V at *
    refine (HZ.out _).mono ?_
    rintro e w1 ⟨rfl, bl1⟩
    have b1 := below_to bV bl1
    go_wp2
    go_ret
    exact ⟨rfl, b1⟩
end Go.Proofs.Ytceeninhjlonbaa
