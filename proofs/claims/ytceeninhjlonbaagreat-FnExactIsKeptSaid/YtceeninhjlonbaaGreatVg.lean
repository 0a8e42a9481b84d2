/- The walk of the law of RobustPart. -/
import Derived.Test.YtceeninhjlonbaaGreatVf
import Derived.Test.YtceeninhjlonbaaGreatVb
import Derived.Test.YtceeninhjlonbaaGreatMf
namespace Go.Proofs.YtceeninhjlonbaaGreat
open Go.RowKit
open Geo (H3)

theorem room16n {V X : World} {B C : Nat} {a0 a1 a2 a3 a4 a5 a6 a7 b0 b1 b2 b3 b4 b5 b6 b7 : Value} {T U : TypeId} (h : Blk V B #[a0, a1, a2, a3, a4, a5, a6, a7] T) (k : Blk V C #[b0, b1, b2, b3, b4, b5, b6, b7] U) (hb : Below V.heap.size V X) :
    X.cell? ⟨B, 0, none⟩ = some a0 ∧ X.cell? ⟨B, 1, none⟩ = some a1 ∧ X.cell? ⟨B, 2, none⟩ = some a2 ∧ X.cell? ⟨B, 3, none⟩ = some a3 ∧ X.cell? ⟨B, 4, none⟩ = some a4 ∧ X.cell? ⟨B, 5, none⟩ = some a5 ∧ X.cell? ⟨B, 6, none⟩ = some a6 ∧ X.cell? ⟨B, 7, none⟩ = some a7 ∧ X.cell? ⟨C, 0, none⟩ = some b0 ∧ X.cell? ⟨C, 1, none⟩ = some b1 ∧ X.cell? ⟨C, 2, none⟩ = some b2 ∧ X.cell? ⟨C, 3, none⟩ = some b3 ∧ X.cell? ⟨C, 4, none⟩ = some b4 ∧ X.cell? ⟨C, 5, none⟩ = some b5 ∧ X.cell? ⟨C, 6, none⟩ = some b6 ∧ X.cell? ⟨C, 7, none⟩ = some b7 :=
  ⟨(h.to hb).c8_0, (h.to hb).c8_1, (h.to hb).c8_2, (h.to hb).c8_3, (h.to hb).c8_4, (h.to hb).c8_5, (h.to hb).c8_6, (h.to hb).c8_7, (k.to hb).c8_0, (k.to hb).c8_1, (k.to hb).c8_2, (k.to hb).c8_3, (k.to hb).c8_4, (k.to hb).c8_5, (k.to hb).c8_6, (k.to hb).c8_7⟩
theorem ROwn.rows_lt {w : World} {B nm cm nn cn nl cl : Nat} {am an al : Option Addr} {zs : List Int} {ps qs : List H3} (h : ROwn w B am nm cm zs an nn cn ps al nl cl qs) : ∀ p, ((Value.slice am nm cm).ownBlock = some p ∨ (Value.slice an nn cn).ownBlock = some p ∨ (Value.slice al nl cl).ownBlock = some p) → B ≤ p ∧ p < w.heap.size := by
  rintro p (k | k | k)
  · exact own_block_lt h.om k
  · exact own_block_lt h.on k
  · exact own_block_lt h.ol k
theorem Gr3.size {w w' : World} {r1 r2 r3 : Option Nat} (h : Gr3 w w' r1 r2 r3) : w.heap.size ≤ w'.heap.size := by
  obtain ⟨w1, w2, g1, g2, g3⟩ := h
  exact Nat.le_trans g1.size (Nat.le_trans g2.size g3.size)
set_option maxRecDepth 100000 in
set_option maxHeartbeats 12800000 in
theorem law_rp (am : Option Addr) (nm cm : Nat) (zs : List Int) (q bx cy lo hi : Int) (an : Option Addr) (nn cn : Nat) (ps : List H3) (al : Option Addr) (nl cl : Nat) (qs : List H3) (a : Option Addr) (n ca : Nat) (rs : List H3) (w : World) (h64 : R64 q bx cy lo hi ps qs) (h1 : nm ≤ maxLen) (h2 : nn ≤ maxLen) (h3 : nl ≤ maxLen) (hA : RAt w am nm zs an nn ps al nl qs) (hl : rs.length = n) (hn : n ≤ maxLen) (hr64 : ∀ h ∈ rs, In64 h) (hG : HsAt w a rs) :
    Calls Tryz.prog 3 #[.agg #[.slice am nm cm, .int .i64 q, .int .i64 bx, .int .i64 cy, .int .i64 lo, .int .i64 hi, .slice an nn cn, .slice al nl cl], .agg #[.slice a n ca]] w fun e w' => e = .returned (.bool true) ∧ Below w.heap.size w w' := by
  have bV := below_bx2 (below_one w (.cells #[.slice am nm cm, .int .i64 q, .int .i64 bx, .int .i64 cy, .int .i64 lo, .int .i64 hi, .slice an nn cn, .slice al nl cl] 27)) (.cells #[.slice a n ca] 25)
  have K0 := (blk_new w #[.slice am nm cm, .int .i64 q, .int .i64 bx, .int .i64 cy, .int .i64 lo, .int .i64 hi, .slice an nn cn, .slice al nl cl] 27 (b := w.heap.size) (by simp)).to (below_one _ (.cells #[.slice a n ca] 25))
  have K1 := blk_new (w.alloc (.cells #[.slice am nm cm, .int .i64 q, .int .i64 bx, .int .i64 cy, .int .i64 lo, .int .i64 hi, .slice an nn cn, .slice al nl cl] 27)) #[.slice a n ca] 25 (b := w.heap.size + 1) (by simp)
  by_cases hle : (nm : Int) + nn + nl ≤ 1048576
  · by_cases hle2 : (n : Int) ≤ 1048576 - nm - nn - nl
    · have HZ := Lib.hid (fun V => sz_room am nm cm q bx cy lo hi an nn cn al nl cl V h1 h2 h3 1048576 (by omega) (by omega) (1048576 - nm - nn - nl) (by rw [if_pos hle]))
      have HY := Lib.hid (fun V => sz_region a n ca V hn (1048576 - nm - nn - nl) (by omega) (by omega) (1048576 - nm - nn - nl - n) (by rw [if_pos hle2]))
      have HT := Lib.hid (fun V (h : Below w.heap.size w V) => to_room am nm cm zs q bx cy lo hi an nn cn ps al nl cl qs V (hA.below h) (by omega))
      have HTG := Lib.hid (fun V (h : Below w.heap.size w V) => to_region2 a n ca rs V hl (by omega) (hG.below h))
      have HE := Lib.hid (fun V am1 cm1 an1 cn1 al1 cl1 am2 cm2 an2 cn2 al2 cl2 (k1 : RAt V am1 nm zs an1 nn ps al1 nl qs) (k2 : RAt V am2 nm zs an2 nn ps al2 nl qs) => eq_room am1 nm cm1 zs q bx cy lo hi an1 nn cn1 ps al1 nl cl1 qs am2 cm2 an2 cn2 al2 cl2 V k1 k2 (by omega))
      have HEG := Lib.hid (fun V a1 a2 c1 c2 (k1 : HsAt V a1 rs) (k2 : HsAt V a2 rs) => eq_region a1 a2 n c1 c2 rs V hl (by omega) k1 k2)
      have HS := Lib.hid (fun V am1 cm1 an1 cn1 al1 cl1 a1 c1 (k0 : RNil am1 nm cm1 an1 nn cn1 al1 nl cl1) (k1 : RAt V am1 nm zs an1 nn ps al1 nl qs) (g0 : a1 = none → n = 0 ∧ c1 = 0) (g1 : HsAt V a1 rs) => spec_rp am1 nm cm1 zs q bx cy lo hi an1 nn cn1 ps al1 nl cl1 qs a1 n c1 rs V k1 h64 (by omega) hl (by omega) hr64 g0 g1 k0)
      have HI := Lib.hid (fun V am1 cm1 an1 cn1 al1 cl1 a1 c1 (k1 : RAt V am1 nm zs an1 nn ps al1 nl qs) (g0 : a1 = none → n = 0 ∧ c1 = 0) (g1 : HsAt V a1 rs) => impl_rp am1 nm cm1 zs q bx cy lo hi an1 nn cn1 ps al1 nl cl1 qs a1 n c1 rs V k1 h64 (by omega) hl (by omega) hr64 g0 g1)
      have hL : (rpL zs q bx cy lo hi ps qs rs).length ≤ 40 := rpL_len _ _ _ _ _ _ _ _ _
      have HEA := Lib.hid (fun V a1 a2 c1 c2 (k1 : HsAt V a1 (rpL zs q bx cy lo hi ps qs rs)) (k2 : HsAt V a2 (rpL zs q bx cy lo hi ps qs rs)) => eq_region a1 a2 (rpL zs q bx cy lo hi ps qs rs).length c1 c2 (rpL zs q bx cy lo hi ps qs rs) V rfl (by omega) k1 k2)
      unfold AnsR at HS HI
      generalize rpL zs q bx cy lo hi ps qs rs = L at *
      generalize L.length = len at *
      generalize rpB zs q bx cy lo hi ps qs rs = R at *
      have hz1 : ¬ (1048576 - (nm : Int) - nn - nl < 0) := by omega
      have hz2 : ¬ (1048576 - (nm : Int) - nn - nl - n < 0) := by omega
      clear hA h64 h1 h2 h3 hl hn hr64 hG
      go_enter Tryz.func3, Tryz.ntmps3
      have c0_0 := K0.c8_0
      have c0_1 := K0.c8_1
      have c0_2 := K0.c8_2
      have c0_3 := K0.c8_3
      have c0_4 := K0.c8_4
      have c0_5 := K0.c8_5
      have c0_6 := K0.c8_6
      have c0_7 := K0.c8_7
      go_wp2_with fail
      clear c0_0 c0_1 c0_2 c0_3 c0_4 c0_5 c0_6 c0_7
      generalize ((w.alloc (.cells #[.slice am nm cm, .int .i64 q, .int .i64 bx, .int .i64 cy, .int .i64 lo, .int .i64 hi, .slice an nn cn, .slice al nl cl] 27)).alloc (.cells #[.slice a n ca] 25)) = V at *
      refine (HZ.out _).mono ?_
      rintro e w1 ⟨rfl, bl1⟩
      have P0_1 := K0.to bl1
      have P1_2 := K1.to bl1
      have b_3 := below_to bV bl1
      clear K0 K1 bV
      clear bl1 HZ
      have c1 := P1_2.cell0 (i := 0) (v := .slice a n ca) rfl
      go_wp2_with fail
      clear c1
      refine (HY.out _).mono ?_
      rintro e w2 ⟨rfl, bl2⟩
      have P0_4 := P0_1.to bl2
      have P1_5 := P1_2.to bl2
      have b_6 := below_to b_3 bl2
      clear P0_1 P1_2 b_3
      clear bl2 HY
      go_wp2
      go_cut [6, 7] from 27 to 34 (fun s6 s7 wx => BoxR w2 L len s6 wx ∧ s7 = .bool R)
      case first =>
        go_region_held3 (fun w' => w'.cell? ⟨w.heap.size, 0, none⟩ = some (.slice am nm cm) ∧ w'.cell? ⟨w.heap.size, 1, none⟩ = some (.int .i64 q) ∧ w'.cell? ⟨w.heap.size, 2, none⟩ = some (.int .i64 bx) ∧ w'.cell? ⟨w.heap.size, 3, none⟩ = some (.int .i64 cy) ∧ w'.cell? ⟨w.heap.size, 4, none⟩ = some (.int .i64 lo) ∧ w'.cell? ⟨w.heap.size, 5, none⟩ = some (.int .i64 hi) ∧ w'.cell? ⟨w.heap.size, 6, none⟩ = some (.slice an nn cn) ∧ w'.cell? ⟨w.heap.size, 7, none⟩ = some (.slice al nl cl) ∧ w'.cell? ⟨w.heap.size + 1, 0, none⟩ = some (.slice a n ca))
          ((refine room9 P0_4 P1_5 ?_; repeat (first | exact Below.refl _ _ | refine Below.setCell ?_ (by first | (simp; done) | (simp; omega)) _ | refine below_bx2 ?_ _ | refine below_drw ?_ | refine below_to ?_ (by assumption))))
          (first | (go_at_call 10; (with_reducible refine (HT.out _ ?_).mono ?_); (focus (repeat (first | exact b_6 | refine below_bx2 ?_ _ | refine below_drw ?_ | refine below_to ?_ (by assumption)))); rintro e wR ⟨amR, cmR, anR, cnR, alR, clR, rfl, hoR, blR⟩; have hsR := blR.size; (try simp at hsR)) | (go_at_call 11; (with_reducible refine (HTG.out _ ?_).mono ?_); (focus (repeat (first | exact b_6 | refine below_bx2 ?_ _ | refine below_drw ?_ | refine below_to ?_ (by assumption)))); rintro e wB ⟨aB, cB, rfl, hoB, blB⟩; have hsB := blB.size; (try simp at hsB)) | (go_at_call 9; (with_reducible refine (HS.out _ _ _ _ _ _ _ _ _ hoR.nil ?_ (own_nil hoB) ?_).mono ?_); (focus ((refine hoR.at.below ?_); repeat (first | exact Below.refl _ _ | refine Below.setCell ?_ (by first | (simp; done) | (simp; omega)) _ | refine below_bx2 ?_ _ | refine below_drw ?_ | refine below_to ?_ (by assumption)))); (focus ((refine (own_hs hoB).below ?_); repeat (first | exact Below.refl _ _ | refine Below.setCell ?_ (by first | (simp; done) | (simp; omega)) _ | refine below_bx2 ?_ _ | refine below_drw ?_ | refine below_to ?_ (by assumption)))); rintro e wC ⟨aC, cC, rfl, hoC, blC⟩; obtain ⟨hcC, hfC⟩ := bcl3 blC; obtain ⟨hcD, hfD⟩ := bcl3 (blx_next (Y := wC) blB (by refine below_to ?_ blC; repeat (first | exact Below.refl _ _ | refine below_bx2 ?_ _ | refine below_drw ?_))); obtain ⟨hcE, hfE⟩ := bcl3 (blx_next (Y := wC) blR (by refine below_to ?_ blC; repeat (first | exact Below.refl _ _ | refine below_bx2 ?_ _ | refine below_drw ?_ | refine below_to ?_ blB))); have hsC := blC.size; (try simp at hsC)))
        all_goals
          go_wp2_with fail
          go_meet
          refine ⟨?_, rfl⟩
          first
            | exact BoxR.last hoC (by first | exact Nat.le_refl _ | omega | (simp; omega) | (simp; done)) (by repeat (first | exact Below.refl _ _ | refine below_bx2 ?_ _ | refine below_drw ?_ | refine below_to ?_ (by assumption)))
            | exact BoxR.early (U := wB) (x := .slice none 0 0) blC (by first | exact Nat.le_refl _ | omega | (simp; omega) | (simp; done)) hoC (by first | exact Nat.le_refl _ | omega | (simp; omega) | (simp; done)) (by repeat (first | exact Below.refl _ _ | refine below_bx2 ?_ _ | refine below_drw ?_ | refine below_to ?_ (by assumption)))
            | exact BoxR.early (U := wR) (x := .slice none 0 0) (by repeat (first | exact Below.refl _ _ | refine below_bx2 ?_ _ | refine below_drw ?_ | refine below_to ?_ (by assumption))) (by first | exact Nat.le_refl _ | omega | (simp; omega) | (simp; done)) hoC (by first | exact Nat.le_refl _ | omega | (simp; omega) | (simp; done)) (by repeat (first | exact Below.refl _ _ | refine below_bx2 ?_ _ | refine below_drw ?_ | refine below_to ?_ (by assumption)))
            | exact BoxR.early (U := w2) (x := .slice none 0 0) (by repeat (first | exact Below.refl _ _ | refine below_bx2 ?_ _ | refine below_drw ?_ | refine below_to ?_ (by assumption))) (by first | exact Nat.le_refl _ | omega | (simp; omega) | (simp; done)) hoC (by first | exact Nat.le_refl _ | omega | (simp; omega) | (simp; done)) (by repeat (first | exact Below.refl _ _ | refine below_bx2 ?_ _ | refine below_drw ?_ | refine below_to ?_ (by assumption)))
      case rest =>
        obtain ⟨⟨g6, aw, cw, rfl, hg6, hh6, how, hb6⟩, rfl⟩ := hcut
        rename World => wc
        have KW : Blk wc g6 #[.slice aw len cw] 32 := hh6
        have OW := Lib.hid how
        have xw := Lib.hid (fun p (h : (Value.slice aw len cw).ownBlock = some p) => own_block_lt OW.out h)
        have P0_7 := P0_4.to hb6
        have P1_8 := P1_5.to hb6
        have b_9 := below_to b_6 hb6
        clear P0_4 P1_5 b_6
        have z6 := hb6.size
        have y6 := KW.lt
        clear hh6 how hb6
        have y0 := P1_8.lt
        have c0 := P0_7.c8_0
        have c1 := P0_7.c8_1
        have c2 := P0_7.c8_2
        have c3 := P0_7.c8_3
        have c4 := P0_7.c8_4
        have c5 := P0_7.c8_5
        have c6 := P0_7.c8_6
        have c7 := P0_7.c8_7
        go_wp2_with fail
        clear c0 c1 c2 c3 c4 c5 c6 c7
        refine (HT.out _ b_9).mono ?_
        rintro e w4 ⟨am4, cm4, an4, cn4, al4, cl4, rfl, ho4, bl4⟩
        have bX := below_to bl4 (below_one w4 (.cells #[.slice am4 nm cm4, .int .i64 q, .int .i64 bx, .int .i64 cy, .int .i64 lo, .int .i64 hi, .slice an4 nn cn4, .slice al4 nl cl4] 36))
        have xr := Lib.hid ho4.rows_lt
        have z4 := bl4.size
        have KX := blk_new w4 #[.slice am4 nm cm4, .int .i64 q, .int .i64 bx, .int .i64 cy, .int .i64 lo, .int .i64 hi, .slice an4 nn cn4, .slice al4 nl cl4] 36 rfl
        have OX := Lib.hid (ho4.below (below_one w4 (.cells #[.slice am4 nm cm4, .int .i64 q, .int .i64 bx, .int .i64 cy, .int .i64 lo, .int .i64 hi, .slice an4 nn cn4, .slice al4 nl cl4] 36)))
        have y4 : (w4.alloc (.cells #[.slice am4 nm cm4, .int .i64 q, .int .i64 bx, .int .i64 cy, .int .i64 lo, .int .i64 hi, .slice an4 nn cn4, .slice al4 nl cl4] 36)).heap.size = w4.heap.size + 1 := by simp
        have P0_10 := P0_7.to bX
        have P1_11 := P1_8.to bX
        have b_12 := below_to b_9 bX
        have KW_13 := KW.to bX
        have OW_14 := Lib.hid (own_below OW.out bX)
        clear P0_7 P1_8 b_9 KW OW
        clear bX bl4 ho4
        have c8 := P1_11.cell0 (i := 0) (v := .slice a n ca) rfl
        go_wp2_with fail
        clear c8
        generalize w4.alloc (.cells #[.slice am4 nm cm4, .int .i64 q, .int .i64 bx, .int .i64 cy, .int .i64 lo, .int .i64 hi, .slice an4 nn cn4, .slice al4 nl cl4] 36) = X at *
        obtain ⟨ex, hex⟩ : ∃ b, w4.heap.size = b := ⟨_, rfl⟩
        rw [hex] at KX y4 z4 xr ⊢
        clear hex
        refine (HTG.out _ b_12).mono ?_
        rintro e w5 ⟨ay, cy1, rfl, ho5, bl5⟩
        have bY := below_to bl5 (below_one w5 (.cells #[.slice ay n cy1] 32))
        have xy := Lib.hid (fun p (h : (Value.slice ay n cy1).ownBlock = some p) => own_block_lt ho5 h)
        have z5 := bl5.size
        have KY := blk_new w5 #[.slice ay n cy1] 32 rfl
        have OY := Lib.hid (own_below ho5 (below_one w5 (.cells #[.slice ay n cy1] 32)))
        have y5 : (w5.alloc (.cells #[.slice ay n cy1] 32)).heap.size = w5.heap.size + 1 := by simp
        have P0_15 := P0_10.to bY
        have P1_16 := P1_11.to bY
        have b_17 := below_to b_12 bY
        have KW_18 := KW_13.to bY
        have OW_19 := Lib.hid (own_below OW_14.out bY)
        have KX_20 := KX.to bY
        have OX_21 := Lib.hid (OX.out.below bY)
        clear P0_10 P1_11 b_12 KW_13 OW_14 KX OX
        clear bY bl5 ho5
        have c0 := KX_20.c8_0
        have c1 := KX_20.c8_1
        have c2 := KX_20.c8_2
        have c3 := KX_20.c8_3
        have c4 := KX_20.c8_4
        have c5 := KX_20.c8_5
        have c6 := KX_20.c8_6
        have c7 := KX_20.c8_7
        have c8 := KY.cell0 (i := 0) rfl
        go_wp2_with fail
        clear c0 c1 c2 c3 c4 c5 c6 c7 c8
        generalize w5.alloc (.cells #[.slice ay n cy1] 32) = Y at *
        obtain ⟨ey, hey⟩ : ∃ b, w5.heap.size = b := ⟨_, rfl⟩
        rw [hey] at KY y5 z5 xy ⊢
        clear hey
        refine (HI.out _ _ _ _ _ _ _ _ _ OX_21.out.at (own_nil OY.out) (own_hs OY.out)).mono ?_
        rintro e w6 ⟨ag, cg, rfl, hog, bl6⟩
        have bG := below_to bl6 (below_one w6 (.cells #[.slice ag len cg] 32))
        have xg := Lib.hid (fun p (h : (Value.slice ag len cg).ownBlock = some p) => own_block_lt hog h)
        have zg := bl6.size
        have KG := blk_new w6 #[.slice ag len cg] 32 rfl
        have OG := Lib.hid (own_below hog (below_one w6 (.cells #[.slice ag len cg] 32)))
        have yg : (w6.alloc (.cells #[.slice ag len cg] 32)).heap.size = w6.heap.size + 1 := by simp
        have P0_22 := P0_15.to bG
        have P1_23 := P1_16.to bG
        have b_24 := below_to b_17 bG
        have KW_25 := KW_18.to bG
        have OW_26 := Lib.hid (own_below OW_19.out bG)
        have KX_27 := KX_20.to bG
        have OX_28 := Lib.hid (OX_21.out.below bG)
        have KY_29 := KY.to bG
        have OY_30 := Lib.hid (own_below OY.out bG)
        clear P0_15 P1_16 b_17 KW_18 OW_19 KX_20 OX_21 KY OY
        clear bG bl6 hog
        have c0 := KG.cell0 (i := 0) rfl
        have c1 := KW_25.cell0 (i := 0) rfl
        go_wp2_with fail
        clear c0 c1
        generalize w6.alloc (.cells #[.slice ag len cg] 32) = Z at *
        obtain ⟨eg, heg⟩ : ∃ b, w6.heap.size = b := ⟨_, rfl⟩
        rw [heg] at KG yg zg xg ⊢
        clear heg
        refine (HEA.out _ _ _ _ _ (own_hs OG.out) (own_hs OW_26.out)).mono ?_
        rintro e w7 ⟨rfl, bl7⟩
        have z7 := bl7.size
        have P0_31 := P0_22.to bl7
        have P1_32 := P1_23.to bl7
        have b_33 := below_to b_24 bl7
        have KW_34 := KW_25.to bl7
        have OW_35 := Lib.hid (own_below OW_26.out bl7)
        have KX_36 := KX_27.to bl7
        have OX_37 := Lib.hid (OX_28.out.below bl7)
        have KY_38 := KY_29.to bl7
        have OY_39 := Lib.hid (own_below OY_30.out bl7)
        have KG_40 := KG.to bl7
        have OG_41 := Lib.hid (own_below OG.out bl7)
        clear P0_22 P1_23 b_24 KW_25 OW_26 KX_27 OX_28 KY_29 OY_30 KG OG
        clear bl7
        go_wp2
        go_region_held3 (fun w' => w'.cell? ⟨ex, 0, none⟩ = some (.slice am4 nm cm4) ∧ w'.cell? ⟨ex, 1, none⟩ = some (.int .i64 q) ∧ w'.cell? ⟨ex, 2, none⟩ = some (.int .i64 bx) ∧ w'.cell? ⟨ex, 3, none⟩ = some (.int .i64 cy) ∧ w'.cell? ⟨ex, 4, none⟩ = some (.int .i64 lo) ∧ w'.cell? ⟨ex, 5, none⟩ = some (.int .i64 hi) ∧ w'.cell? ⟨ex, 6, none⟩ = some (.slice an4 nn cn4) ∧ w'.cell? ⟨ex, 7, none⟩ = some (.slice al4 nl cl4) ∧ w'.cell? ⟨w.heap.size, 0, none⟩ = some (.slice am nm cm) ∧ w'.cell? ⟨w.heap.size, 1, none⟩ = some (.int .i64 q) ∧ w'.cell? ⟨w.heap.size, 2, none⟩ = some (.int .i64 bx) ∧ w'.cell? ⟨w.heap.size, 3, none⟩ = some (.int .i64 cy) ∧ w'.cell? ⟨w.heap.size, 4, none⟩ = some (.int .i64 lo) ∧ w'.cell? ⟨w.heap.size, 5, none⟩ = some (.int .i64 hi) ∧ w'.cell? ⟨w.heap.size, 6, none⟩ = some (.slice an nn cn) ∧ w'.cell? ⟨w.heap.size, 7, none⟩ = some (.slice al nl cl))
          ((refine room16n KX_36 P0_31 ?_; repeat (first | exact Below.refl _ _ | refine below_drw ?_ | refine below_to ?_ (by assumption))))
          (first | (go_at_call 10; (with_reducible refine (HT.out _ ?_).mono ?_); (focus (repeat (first | exact b_33 | refine below_drw ?_ | refine below_to ?_ (by assumption)))); rintro e w8 ⟨am7, cm7, an7, cn7, al7, cl7, rfl, ho8, bl8⟩) | (go_at_call 14; (with_reducible refine (HE.out _ _ _ _ _ _ _ _ _ _ _ _ _ ?_ ?_).mono ?_); (focus ((refine OX_37.out.at.below ?_); repeat (first | exact Below.refl _ _ | refine below_drw ?_ | refine below_to ?_ (by assumption)))); (focus (exact ho8.at)); rintro e w9 ⟨rfl, bl9⟩))
        have blj : Below w7.heap.size w7 w9 := below_to (below_to (below_drw (Below.refl _ _)) bl8) bl9
        have z9 := blj.size
        have P0_42 := P0_31.to blj
        have P1_43 := P1_32.to blj
        have b_44 := below_to b_33 blj
        have KW_45 := KW_34.to blj
        have OW_46 := Lib.hid (own_below OW_35.out blj)
        have KX_47 := KX_36.to blj
        have OX_48 := Lib.hid (OX_37.out.below blj)
        have KY_49 := KY_38.to blj
        have OY_50 := Lib.hid (own_below OY_39.out blj)
        have KG_51 := KG_40.to blj
        have OG_52 := Lib.hid (own_below OG_41.out blj)
        clear P0_31 P1_32 b_33 KW_34 OW_35 KX_36 OX_37 KY_38 OY_39 KG_40 OG_41
        clear bl8 bl9 blj ho8
        go_wp2
        go_region_held3 (fun w' => w'.cell? ⟨ey, 0, none⟩ = some (.slice ay n cy1) ∧ w'.cell? ⟨w.heap.size + 1, 0, none⟩ = some (.slice a n ca))
          ((refine twoc (KY_49.cell0 (i := 0) rfl) (P1_43.cell0 (i := 0) rfl) ?_; repeat (first | exact Below.refl _ _ | refine below_drw ?_ | refine below_to ?_ (by assumption))))
          (first | (go_at_call 11; (with_reducible refine (HTG.out _ ?_).mono ?_); (focus (repeat (first | exact b_44 | refine below_drw ?_ | refine below_to ?_ (by assumption)))); rintro e w10 ⟨ao10, cp10, rfl, ho10, bl10⟩) | (go_at_call 13; (with_reducible refine (HEG.out _ _ _ _ _ ?_ ?_).mono ?_); (focus ((refine (own_hs OY_50.out).below ?_); repeat (first | exact Below.refl _ _ | refine below_drw ?_ | refine below_to ?_ (by assumption)))); (focus (exact own_hs ho10)); rintro e w11 ⟨rfl, bl11⟩))
        have blk11 : Below w9.heap.size w9 w11 := below_to (below_to (below_drw (Below.refl _ _)) bl10) bl11
        have z11 := blk11.size
        have P0_53 := P0_42.to blk11
        have P1_54 := P1_43.to blk11
        have b_55 := below_to b_44 blk11
        have KW_56 := KW_45.to blk11
        have OW_57 := Lib.hid (own_below OW_46.out blk11)
        have KX_58 := KX_47.to blk11
        have OX_59 := Lib.hid (OX_48.out.below blk11)
        have KY_60 := KY_49.to blk11
        have OY_61 := Lib.hid (own_below OY_50.out blk11)
        have KG_62 := KG_51.to blk11
        have OG_63 := Lib.hid (own_below OG_52.out blk11)
        clear P0_42 P1_43 b_44 KW_45 OW_46 KX_47 OX_48 KY_49 OY_50 KG_51 OG_52
        clear bl10 bl11 blk11 ho10
        have c0 := KX_58.c8_0
        have c1 := KX_58.c8_1
        have c2 := KX_58.c8_2
        have c3 := KX_58.c8_3
        have c4 := KX_58.c8_4
        have c5 := KX_58.c8_5
        have c6 := KX_58.c8_6
        have c7 := KX_58.c8_7
        go_wp2_with fail
        clear c0 c1 c2 c3 c4 c5 c6 c7
        refine (mark_room4 am4 nm cm4 zs q bx cy lo hi an4 nn cn4 ps al4 nl cl4 qs _ 1 w11 (by omega) (by omega) (by omega) OX_59.out).mono ?_
        rintro e w12 ⟨rfl, _, g12⟩
        have b12 : Below w.heap.size w w12 := b_55.trans (Gr3.below g12 (by omega) (fun p h => by have := xr.out p (.inl h); omega) (fun p h => by have := xr.out p (.inr (.inl h)); omega) (fun p h => by have := xr.out p (.inr (.inr h)); omega))
        have z12 := g12.size
        have P0_64 := Gr3.blk g12 P0_53 (fun h => by have := xr.out _ (.inl h.symm); have := P0_53.lt; omega) (fun h => by have := xr.out _ (.inr (.inl h.symm)); have := P0_53.lt; omega) (fun h => by have := xr.out _ (.inr (.inr h.symm)); have := P0_53.lt; omega)
        have P1_65 := Gr3.blk g12 P1_54 (fun h => by have := xr.out _ (.inl h.symm); have := P1_54.lt; omega) (fun h => by have := xr.out _ (.inr (.inl h.symm)); have := P1_54.lt; omega) (fun h => by have := xr.out _ (.inr (.inr h.symm)); have := P1_54.lt; omega)
        have KW_66 := Gr3.blk g12 KW_56 (fun h => by have := xr.out _ (.inl h.symm); have := KW_56.lt; omega) (fun h => by have := xr.out _ (.inr (.inl h.symm)); have := KW_56.lt; omega) (fun h => by have := xr.out _ (.inr (.inr h.symm)); have := KW_56.lt; omega)
        have OW_67 := Lib.hid (Gr3.own g12 OW_57.out (fun p hp e => by have := xw.out p hp; have := xr.out p (.inl e.symm); omega) (fun p hp e => by have := xw.out p hp; have := xr.out p (.inr (.inl e.symm)); omega) (fun p hp e => by have := xw.out p hp; have := xr.out p (.inr (.inr e.symm)); omega))
        have KY_68 := Gr3.blk g12 KY_60 (fun h => by have := xr.out _ (.inl h.symm); have := KY_60.lt; omega) (fun h => by have := xr.out _ (.inr (.inl h.symm)); have := KY_60.lt; omega) (fun h => by have := xr.out _ (.inr (.inr h.symm)); have := KY_60.lt; omega)
        have OY_69 := Lib.hid (Gr3.own g12 OY_61.out (fun p hp e => by have := xy.out p hp; have := xr.out p (.inl e.symm); omega) (fun p hp e => by have := xy.out p hp; have := xr.out p (.inr (.inl e.symm)); omega) (fun p hp e => by have := xy.out p hp; have := xr.out p (.inr (.inr e.symm)); omega))
        have KG_70 := Gr3.blk g12 KG_62 (fun h => by have := xr.out _ (.inl h.symm); have := KG_62.lt; omega) (fun h => by have := xr.out _ (.inr (.inl h.symm)); have := KG_62.lt; omega) (fun h => by have := xr.out _ (.inr (.inr h.symm)); have := KG_62.lt; omega)
        have OG_71 := Lib.hid (Gr3.own g12 OG_63.out (fun p hp e => by have := xg.out p hp; have := xr.out p (.inl e.symm); omega) (fun p hp e => by have := xg.out p hp; have := xr.out p (.inr (.inl e.symm)); omega) (fun p hp e => by have := xg.out p hp; have := xr.out p (.inr (.inr e.symm)); omega))
        clear P0_53 P1_54 b_55 KW_56 OW_57 KX_58 OX_59 KY_60 OY_61 KG_62 OG_63
        clear g12
        have c8 := KY_68.cell0 (i := 0) rfl
        go_wp2_with fail
        clear c8
        refine (mark_region4 _ n _ rs (3 * nl + (3 * nn + (nm + 1))) w12 (by omega) (by omega) (by omega) OY_69.out).mono ?_
        rintro e w13 ⟨rfl, _, g13⟩
        have b13 : Below w.heap.size w w13 := b12.trans ((Below.refl w.heap.size w12).grown g13 (by omega) (fun p h => by have := xy.out p h; omega))
        have z13 := g13.size
        have P0_72 : Blk _ _ _ _ := ((g13).block _ P0_64.lt (fun h => by have := xy.out _ h.symm; have := P0_64.lt; omega)).trans P0_64
        have P1_73 : Blk _ _ _ _ := ((g13).block _ P1_65.lt (fun h => by have := xy.out _ h.symm; have := P1_65.lt; omega)).trans P1_65
        have KW_74 : Blk _ _ _ _ := ((g13).block _ KW_66.lt (fun h => by have := xy.out _ h.symm; have := KW_66.lt; omega)).trans KW_66
        have OW_75 := Lib.hid (own_grow OW_67.out g13 (fun p hp e => by have := xw.out p hp; have := xy.out p e.symm; omega))
        have KG_76 : Blk _ _ _ _ := ((g13).block _ KG_70.lt (fun h => by have := xy.out _ h.symm; have := KG_70.lt; omega)).trans KG_70
        have OG_77 := Lib.hid (own_grow OG_71.out g13 (fun p hp e => by have := xg.out p hp; have := xy.out p e.symm; omega))
        clear P0_64 P1_65 KW_66 OW_67 KY_68 OY_69 KG_70 OG_71 b12
        clear g13
        have hk1 : ¬ (3 * (n : Int) + (3 * (nl : Int) + (3 * (nn : Int) + ((nm : Int) + 1))) < 0) := by omega
        have c0 := KG_76.cell0 (i := 0) rfl
        have c1 := KW_74.cell0 (i := 0) rfl
        go_wp2_with fail
        clear c0 c1 hk1
        refine (HEA.out _ _ _ _ _ (own_hs OG_77.out) (own_hs OW_75.out)).mono ?_
        rintro e w14 ⟨rfl, bl14⟩
        have z14 := bl14.size
        have P0_78 := P0_72.to bl14
        have P1_79 := P1_73.to bl14
        have KW_80 := KW_74.to bl14
        have OW_81 := Lib.hid (own_below OW_75.out bl14)
        have KG_82 := KG_76.to bl14
        have OG_83 := Lib.hid (own_below OG_77.out bl14)
        have b_84 := below_to b13 bl14
        clear P0_72 P1_73 KW_74 OW_75 KG_76 OG_77 b13
        clear bl14
        have c0 := KG_82.cell0 (i := 0) rfl
        go_wp2_with fail
        clear c0
        refine (mark_region4 _ len _ L 1 w14 (by omega) (by omega) (by omega) OG_83.out).mono ?_
        rintro e w15 ⟨rfl, hoE, g15⟩
        have b15 : Below w.heap.size w w15 := b_84.trans ((Below.refl w.heap.size w14).grown g15 (by omega) (fun p h => by have := xg.out p h; omega))
        have z15 := g15.size
        have OE := Lib.hid hoE
        have P0_85 : Blk _ _ _ _ := ((g15).block _ P0_78.lt (fun h => by have := xg.out _ h.symm; have := P0_78.lt; omega)).trans P0_78
        have P1_86 : Blk _ _ _ _ := ((g15).block _ P1_79.lt (fun h => by have := xg.out _ h.symm; have := P1_79.lt; omega)).trans P1_79
        have KW_87 : Blk _ _ _ _ := ((g15).block _ KW_80.lt (fun h => by have := xg.out _ h.symm; have := KW_80.lt; omega)).trans KW_80
        have OW_88 := Lib.hid (own_grow OW_81.out g15 (fun p hp e => by have := xw.out p hp; have := xg.out p e.symm; omega))
        have KG_89 : Blk _ _ _ _ := ((g15).block _ KG_82.lt (fun h => by have := xg.out _ h.symm; have := KG_82.lt; omega)).trans KG_82
        clear P0_78 P1_79 KW_80 OW_81 KG_82 OG_83 b_84
        clear g15 hoE
        have c0 := KG_89.cell0 (i := 0) rfl
        go_wp2_with fail
        clear c0
        refine (held_region4 ag len cg 1 w15 (by omega) (by omega) (by omega) (own_hs OE.out)).mono ?_
        rintro e w16 ⟨rfl, bl16⟩
        have z16 := bl16.size
        have P0_90 := P0_85.to bl16
        have P1_91 := P1_86.to bl16
        have KW_92 := KW_87.to bl16
        have OW_93 := Lib.hid (own_below OW_88.out bl16)
        have KG_94 := KG_89.to bl16
        have b_95 := below_to b15 bl16
        have OE_96 := Lib.hid (own_below OE.out bl16)
        clear P0_85 P1_86 KW_87 OW_88 KG_89 b15 OE
        clear bl16
        have hk2 : ¬ (3 * (len : Int) + 1 < 0) := by omega
        go_wp2
        go_cut [15, 16] from 94 to 101 (fun s6 s7 wx => BoxR w16 L len s6 wx ∧ s7 = .bool R)
        case first =>
          go_region_held3 (fun w' => w'.cell? ⟨w.heap.size, 0, none⟩ = some (.slice am nm cm) ∧ w'.cell? ⟨w.heap.size, 1, none⟩ = some (.int .i64 q) ∧ w'.cell? ⟨w.heap.size, 2, none⟩ = some (.int .i64 bx) ∧ w'.cell? ⟨w.heap.size, 3, none⟩ = some (.int .i64 cy) ∧ w'.cell? ⟨w.heap.size, 4, none⟩ = some (.int .i64 lo) ∧ w'.cell? ⟨w.heap.size, 5, none⟩ = some (.int .i64 hi) ∧ w'.cell? ⟨w.heap.size, 6, none⟩ = some (.slice an nn cn) ∧ w'.cell? ⟨w.heap.size, 7, none⟩ = some (.slice al nl cl) ∧ w'.cell? ⟨w.heap.size + 1, 0, none⟩ = some (.slice a n ca))
            ((refine room9 P0_90 P1_91 ?_; repeat (first | exact Below.refl _ _ | refine Below.setCell ?_ (by first | (simp; done) | (simp; omega)) _ | refine below_bx2 ?_ _ | refine below_drw ?_ | refine below_to ?_ (by assumption))))
            (first | (go_at_call 10; (with_reducible refine (HT.out _ ?_).mono ?_); (focus (repeat (first | exact b_95 | refine below_bx2 ?_ _ | refine below_drw ?_ | refine below_to ?_ (by assumption)))); rintro e wR ⟨amR, cmR, anR, cnR, alR, clR, rfl, hoR, blR⟩; have hsR := blR.size; (try simp at hsR)) | (go_at_call 11; (with_reducible refine (HTG.out _ ?_).mono ?_); (focus (repeat (first | exact b_95 | refine below_bx2 ?_ _ | refine below_drw ?_ | refine below_to ?_ (by assumption)))); rintro e wB ⟨aB, cB, rfl, hoB, blB⟩; have hsB := blB.size; (try simp at hsB)) | (go_at_call 12; (with_reducible refine (HI.out _ _ _ _ _ _ _ _ _ ?_ (own_nil hoB) ?_).mono ?_); (focus ((refine hoR.at.below ?_); repeat (first | exact Below.refl _ _ | refine Below.setCell ?_ (by first | (simp; done) | (simp; omega)) _ | refine below_bx2 ?_ _ | refine below_drw ?_ | refine below_to ?_ (by assumption)))); (focus ((refine (own_hs hoB).below ?_); repeat (first | exact Below.refl _ _ | refine Below.setCell ?_ (by first | (simp; done) | (simp; omega)) _ | refine below_bx2 ?_ _ | refine below_drw ?_ | refine below_to ?_ (by assumption)))); rintro e wC ⟨aC, cC, rfl, hoC, blC⟩; obtain ⟨hcC, hfC⟩ := bcl3 blC; obtain ⟨hcD, hfD⟩ := bcl3 (blx_next (Y := wC) blB (by refine below_to ?_ blC; repeat (first | exact Below.refl _ _ | refine below_bx2 ?_ _ | refine below_drw ?_))); obtain ⟨hcE, hfE⟩ := bcl3 (blx_next (Y := wC) blR (by refine below_to ?_ blC; repeat (first | exact Below.refl _ _ | refine below_bx2 ?_ _ | refine below_drw ?_ | refine below_to ?_ blB))); have hsC := blC.size; (try simp at hsC)))
          all_goals
            go_wp2_with fail
            go_meet
            refine ⟨?_, rfl⟩
            first
              | exact BoxR.last hoC (by first | exact Nat.le_refl _ | omega | (simp; omega) | (simp; done)) (by repeat (first | exact Below.refl _ _ | refine below_bx2 ?_ _ | refine below_drw ?_ | refine below_to ?_ (by assumption)))
              | exact BoxR.early (U := wB) (x := .slice none 0 0) blC (by first | exact Nat.le_refl _ | omega | (simp; omega) | (simp; done)) hoC (by first | exact Nat.le_refl _ | omega | (simp; omega) | (simp; done)) (by repeat (first | exact Below.refl _ _ | refine below_bx2 ?_ _ | refine below_drw ?_ | refine below_to ?_ (by assumption)))
              | exact BoxR.early (U := wR) (x := .slice none 0 0) (by repeat (first | exact Below.refl _ _ | refine below_bx2 ?_ _ | refine below_drw ?_ | refine below_to ?_ (by assumption))) (by first | exact Nat.le_refl _ | omega | (simp; omega) | (simp; done)) hoC (by first | exact Nat.le_refl _ | omega | (simp; omega) | (simp; done)) (by repeat (first | exact Below.refl _ _ | refine below_bx2 ?_ _ | refine below_drw ?_ | refine below_to ?_ (by assumption)))
              | exact BoxR.early (U := w16) (x := .slice none 0 0) (by repeat (first | exact Below.refl _ _ | refine below_bx2 ?_ _ | refine below_drw ?_ | refine below_to ?_ (by assumption))) (by first | exact Nat.le_refl _ | omega | (simp; omega) | (simp; done)) hoC (by first | exact Nat.le_refl _ | omega | (simp; omega) | (simp; done)) (by repeat (first | exact Below.refl _ _ | refine below_bx2 ?_ _ | refine below_drw ?_ | refine below_to ?_ (by assumption)))
        case rest =>
          obtain ⟨⟨gh, ah, ch, rfl, hgh, hhh, hoh, hbh⟩, rfl⟩ := hcut
          rename World => wz
          have KH : Blk wz gh #[.slice ah len ch] 32 := hhh
          have OH := Lib.hid hoh
          have P0_97 := P0_90.to hbh
          have P1_98 := P1_91.to hbh
          have KW_99 := KW_92.to hbh
          have OW_100 := Lib.hid (own_below OW_93.out hbh)
          have KG_101 := KG_94.to hbh
          have b_102 := below_to b_95 hbh
          have OE_103 := Lib.hid (own_below OE_96.out hbh)
          clear P0_90 P1_91 KW_92 OW_93 KG_94 b_95 OE_96
          clear hhh hoh hbh
          have c0 := KH.cell0 (i := 0) rfl
          have c1 := KW_99.cell0 (i := 0) rfl
          go_wp2_with fail
          clear c0 c1
          refine (HEA.out _ _ _ _ _ (own_hs OH.out) (own_hs OW_100.out)).mono ?_
          rintro e wy ⟨rfl, bly⟩
          have P0_104 := P0_97.to bly
          have P1_105 := P1_98.to bly
          have KW_106 := KW_99.to bly
          have OW_107 := Lib.hid (own_below OW_100.out bly)
          have KG_108 := KG_101.to bly
          have b_109 := below_to b_102 bly
          have OE_110 := Lib.hid (own_below OE_103.out bly)
          have KH_111 := KH.to bly
          have OH_112 := Lib.hid (own_below OH.out bly)
          clear P0_97 P1_98 KW_99 OW_100 KG_101 b_102 OE_103 KH OH
          clear bly
          have c0 := KG_108.cell0 (i := 0) rfl
          go_wp2_with fail
          clear c0
          refine (held_region4 ag len cg 1 wy (by omega) (by omega) (by omega) (own_hs OE_110.out)).mono ?_
          rintro e wt ⟨rfl, blt⟩
          have bt := below_to b_109 blt
          go_wp2
          go_ret
          exact ⟨rfl, bt⟩
    · have HZ := Lib.hid (fun V => sz_room am nm cm q bx cy lo hi an nn cn al nl cl V h1 h2 h3 1048576 (by omega) (by omega) (1048576 - nm - nn - nl) (by rw [if_pos hle]))
      have HY := Lib.hid (fun V => sz_region a n ca V hn (1048576 - nm - nn - nl) (by omega) (by omega) (-1) (by rw [if_neg hle2]))
      have hz1 : ¬ (1048576 - (nm : Int) - nn - nl < 0) := by omega
      clear hA h64 h1 h2 h3 hle hle2 hl hn hr64 hG
      go_enter Tryz.func3, Tryz.ntmps3
      have c0_0 := K0.c8_0
      have c0_1 := K0.c8_1
      have c0_2 := K0.c8_2
      have c0_3 := K0.c8_3
      have c0_4 := K0.c8_4
      have c0_5 := K0.c8_5
      have c0_6 := K0.c8_6
      have c0_7 := K0.c8_7
      go_wp2_with fail
      generalize ((w.alloc (.cells #[.slice am nm cm, .int .i64 q, .int .i64 bx, .int .i64 cy, .int .i64 lo, .int .i64 hi, .slice an nn cn, .slice al nl cl] 27)).alloc (.cells #[.slice a n ca] 25)) = V at *
      refine (HZ.out _).mono ?_
      rintro e w1 ⟨rfl, bl1⟩
      have b1 := below_to bV bl1
      have L1 := K1.to bl1
      clear c0_0 c0_1 c0_2 c0_3 c0_4 c0_5 c0_6 c0_7
      have c1 := L1.cell0 (i := 0) (v := .slice a n ca) rfl
      go_wp2_with fail
      refine (HY.out _).mono ?_
      rintro e w2 ⟨rfl, bl2⟩
      have b2 := below_to b1 bl2
      go_wp2
      go_ret
      exact ⟨rfl, b2⟩
  · have HZ := Lib.hid (fun V => sz_room am nm cm q bx cy lo hi an nn cn al nl cl V h1 h2 h3 1048576 (by omega) (by omega) (-1) (by rw [if_neg hle]))
    clear hA h64 h1 h2 h3 hle hl hn hr64 hG
    go_enter Tryz.func3, Tryz.ntmps3
    have c0_0 := K0.c8_0
    have c0_1 := K0.c8_1
    have c0_2 := K0.c8_2
    have c0_3 := K0.c8_3
    have c0_4 := K0.c8_4
    have c0_5 := K0.c8_5
    have c0_6 := K0.c8_6
    have c0_7 := K0.c8_7
    go_wp2_with fail
    generalize ((w.alloc (.cells #[.slice am nm cm, .int .i64 q, .int .i64 bx, .int .i64 cy, .int .i64 lo, .int .i64 hi, .slice an nn cn, .slice al nl cl] 27)).alloc (.cells #[.slice a n ca] 25)) = V at *
    refine (HZ.out _).mono ?_
    rintro e w1 ⟨rfl, bl1⟩
    have b1 := below_to bV bl1
    go_wp2
    go_ret
    exact ⟨rfl, b1⟩
end Go.Proofs.YtceeninhjlonbaaGreat
