/- The walk of the law FnEroded. -/
import Derived.Test.YtfndkapjclhflaaAn
import Derived.Test.YtfndkapjclhflaaAi
namespace Go.Proofs.Ytfndkapjclhflaa
open Go.RowKit
open Geo (H3)

/-- a drawn small box in new memory -/
def SmallW (w0 : World) (e : Ending) (w' : World) : Prop := ∃ (qs : List H3) (ao : Option Addr) (cp : Nat), BoxF qs ∧ e = .returned (.agg #[.slice ao 4 cp]) ∧ w'.ownsRow w0.heap.size 35 3 (.slice ao 4 cp) 4 (flat qs) ∧ Below w0.heap.size w0 w'
set_option maxRecDepth 100000 in
set_option maxHeartbeats 3200000 in
theorem make_small (w : World) (a : Option Addr) (len cap n : Nat) (hn : n ≤ 1000000) (hl : len ≤ 1048576) (hB : BytesAt w a len) : Calls Try.prog 31 #[.slice a len cap, .int .i64 n] w (SmallW w) := by
  have hb0 := below_one w (.cells #[.slice none 0 0] 25)
  have K0 := blk_new w #[.slice none 0 0] 25 rfl
  have HB := Lib.hid (hB.below hb0)
  clear hB
  go_enter Try.func31, Try.ntmps31
  go_wp2_with fail
  have hz : (w.alloc (.cells #[.slice none 0 0] 25)).heap.size = w.heap.size + 1 := by simp
  generalize w.alloc (.cells #[.slice none 0 0] 25) = U at *
  refine (new26 _ a len cap n hn hl HB.out).mono ?_
  rintro e w1 ⟨g, rfl, hg, hs, hb⟩
  have H1 := Lib.hid hs
  have b1 := hb
  clear hs hb
  go_wp2_with fail
  refine (below_cur 4 H1.out (by omega) (by omega)).mono ?_
  rintro e w2 ⟨r2, h2, rfl, hd⟩
  have H2 := Lib.hid (H1.out.drawn hd)
  have b2 := b1.grown hd.1 b1.size (fun p hp => by cases hp; exact hg)
  clear hd b1 H1
  go_wp2_with fail
  refine (below_cur 4 H2.out (by omega) (by omega)).mono ?_
  rintro e w3 ⟨r3, h3, rfl, hd⟩
  have H3 := Lib.hid (H2.out.drawn hd)
  have b3 := b2.grown hd.1 b2.size (fun p hp => by cases hp; exact hg)
  clear hd b2 H2
  go_wp2_with fail
  refine (below_cur 4 H3.out (by omega) (by omega)).mono ?_
  rintro e w4 ⟨r4, h4, rfl, hd⟩
  have H4 := Lib.hid (H3.out.drawn hd)
  have b4 := b3.grown hd.1 b3.size (fun p hp => by cases hp; exact hg)
  clear hd b3 H3
  go_wp2_with fail
  refine (below_cur 4 H4.out (by omega) (by omega)).mono ?_
  rintro e w5 ⟨r5, h5, rfl, hd⟩
  have H5 := Lib.hid (H4.out.drawn hd)
  have b5 := b4.grown hd.1 b4.size (fun p hp => by cases hp; exact hg)
  clear hd b4 H4
  have hx0 : -3 ≤ -r2 ∧ -r2 ≤ 0 := by omega
  have hy0 : -3 ≤ -r3 ∧ -r3 ≤ 0 := by omega
  have hx1 : 1 ≤ 1 + r4 ∧ 1 + r4 ≤ 4 := by omega
  have hy1 : 1 ≤ 1 + r5 ∧ 1 + r5 ≤ 4 := by omega
  go_wp2_with fail
  generalize -r2 = x0 at *
  generalize -r3 = y0 at *
  generalize 1 + r4 = x1 at *
  generalize 1 + r5 = y1 at *
  have bb : bxB x0 y0 x1 y1 = true := (bx_iff _ _ _ _).2 ⟨by omega, by omega, by omega, by omega, by omega, by omega⟩
  have HX := Lib.hid (spec_box x0 y0 x1 y1 w5)
  unfold BoxW at HX
  rw [show bxL x0 y0 x1 y1 = boxL x0 y0 x1 y1 by unfold bxL; rw [if_pos bb], bb, show (boxL x0 y0 x1 y1).length = 4 from rfl] at HX
  have HF := Lib.hid (show BoxF (boxL x0 y0 x1 y1) from ⟨x0, y0, x1, y1, hx0, hy0, hx1, hy1, rfl⟩)
  generalize boxL x0 y0 x1 y1 = qs at *
  clear bb h2 h3 h4 h5 H5
  refine HX.out.mono ?_
  rintro e w6 ⟨ao, cp, rfl, ho, bl⟩
  have HO := Lib.hid (own_below ho (below_one w6 (.cells #[.slice ao 4 cp] 25)))
  have b6 := below_to (below_to b5 bl) (below_one w6 (.cells #[.slice ao 4 cp] 25))
  have h56 := b5.size
  have KX := blk_new w6 #[.slice ao 4 cp] 25 rfl
  have x0' := KX.cell0 (i := 0) rfl
  have hfin := below_to hb0 b6
  have K2 := K0.to b6
  have c0 := K2.cell0 (i := 0) rfl
  have f0 := K2.free 0
  have y0' := K2.lt
  clear ho bl b5 b6 K0 HX
  go_wp2_with fail
  refine bodyPost_ret (v := .agg #[.slice ao 4 cp]) (by simp [results, Try.results31, go_sem, c0]) rfl ⟨qs, ao, cp, HF.out, rfl, ?_, ?_⟩
  · exact own_base (own_far HO.out (by simp; omega) _) (by omega)
  · exact hfin.setCell (Nat.le_refl _) _
set_option maxRecDepth 100000 in
set_option maxHeartbeats 6400000 in
theorem law_eroded (a : Option Addr) (len cap : Nat) (w : World) (_hm : len ≤ maxLen) (hB : BytesAt w a len) :
    Calls Try.prog 6 #[.slice a len cap] w fun e w' => e = .returned (.bool true) ∧ Below w.heap.size w w' := by
  by_cases hle : (1048576 : Int) < (len : Int)
  · go_enter Try.func6, Try.ntmps6
    go_wp2
    go_ret
    exact ⟨rfl, Below.refl _ _⟩
  have HB := Lib.hid hB
  have hl : len ≤ 1048576 := by omega
  clear hB
  go_enter Try.func6, Try.ntmps6
  go_wp2_with fail
  refine (make_area w a len cap 1 (by omega) hl HB.out).mono ?_
  rintro e w1 ⟨ps, x0, y0, u0, v0, ap, cp, hAF, rfl, ho1, bl⟩
  have HFps := Lib.hid hAF
  have Hps0 := Lib.hid (own_hs ho1)
  have HZps := Lib.hid (own_nil ho1)
  clear hAF ho1
  obtain ⟨p, hp⟩ : ∃ p, ps.length = p := ⟨_, rfl⟩
  rw [hp] at HZps ⊢
  have HLps := Lib.hid hp
  clear hp
  have b0 := bl
  clear bl
  have bN := below_one w1 (.cells #[.slice ap p cp] 25)
  have BP0 := blk_new w1 #[.slice ap p cp] 25 rfl
  have b_1 := below_to b0 bN
  have Hps_2 := Lib.hid (Hps0.out.below bN)
  clear b0 Hps0
  clear bN
  go_wp2_with fail
  generalize w1.alloc (.cells #[.slice ap p cp] 25) = U1 at *
  obtain ⟨bp, hbk⟩ : ∃ b, w1.heap.size = b := ⟨_, rfl⟩
  rw [hbk] at BP0 ⊢
  clear hbk
  have HRps := Lib.hid HFps.out.1
  have HNps := Lib.hid HFps.out.2.1
  have hpl : p ≤ 10 := by have := HFps.out.2.2.1; have := HLps.out; omega
  have H64ps := Lib.hid (fun h hh => ok_in64 (rok_all HRps.out h hh))
  refine (make_small U1 a len cap 30 (by omega) hl (HB.out.below b_1)).mono ?_
  rintro e w2 ⟨qs, aq, cq, hBF, rfl, ho1, bl⟩
  have HBF := Lib.hid hBF
  have Hqs0 := Lib.hid (own_hs ho1)
  clear hBF ho1
  obtain ⟨f1, f2, f3, f4, f5⟩ := box_facts HBF.out
  have HRqs := Lib.hid f1
  have HLqs := Lib.hid f3
  have HCR := Lib.hid f5
  have H64qs := Lib.hid (fun h hh => ok_in64 (rok_all HRqs.out h hh))
  obtain ⟨g1, g2, g3, g4⟩ := ero_facts HFps.out HBF.out
  have HRL := Lib.hid g2
  have HWI := Lib.hid g3
  have HFL := Lib.hid g4
  have HER := Lib.hid (fun V (h : HsAt V ap ps) (k : HsAt V aq qs) => impl_ero ap aq p 4 cp cq ps qs V HLps.out HLqs.out (by omega) (by omega) H64ps.out H64qs.out h k)
  rw [g1] at HER
  unfold AnsR at HER
  have HCO := Lib.hid (fun V (h : HsAt V aq qs) => impl_cor aq 4 cq qs V HLqs.out (by omega) H64qs.out h)
  rw [cor_pos HLqs.out HRqs.out] at HCO
  unfold SpW at HCO
  rw [corL_len] at HCO
  have HXJ := Lib.hid (fun i (h : i < 4) => corL_get qs h)
  generalize corL qs 4 = cs at *
  have hql : (eroL ps qs).length ≤ 40 := rok_len g2
  have hAL : ∀ X Y k, alE ps qs X Y (k + 1) = (alE ps qs X Y k && hasB ps (X + (crA qs k).a) (Y + (crA qs k).b) 1) := fun X Y k => rfl
  have HAL := Lib.hid hAL
  clear f1 f2 f3 f4 f5 g1 g2 g3 g4 hAL
  generalize eroL ps qs = L at *
  have K64 := Lib.hid (fun h hh => ok_in64 (rok_all HRL.out h hh))
  obtain ⟨l, hl3⟩ : ∃ l, L.length = l := ⟨_, rfl⟩
  rw [hl3] at hql HER
  have HLL := Lib.hid hl3
  clear hl3
  have b_3 := below_to b_1 bl
  have Hps_4 := Lib.hid (Hps_2.out.below bl)
  have BP_5 := BP0.to bl
  clear b_1 Hps_2 BP0
  clear bl
  have bN := below_one w2 (.cells #[.slice aq 4 cq] 25)
  have BQ0 := blk_new w2 #[.slice aq 4 cq] 25 rfl
  have b_6 := below_to b_3 bN
  have Hps_7 := Lib.hid (Hps_4.out.below bN)
  have BP_8 := BP_5.to bN
  have Hqs_9 := Lib.hid (Hqs0.out.below bN)
  clear b_3 Hps_4 BP_5 Hqs0
  clear bN
  have q0 := BP_8.cell0 (i := 0) rfl
  have q1 := BQ0.cell0 (i := 0) rfl
  go_wp2_with fail
  clear q0 q1
  generalize w2.alloc (.cells #[.slice aq 4 cq] 25) = U2 at *
  obtain ⟨bq, hbk⟩ : ∃ b, w2.heap.size = b := ⟨_, rfl⟩
  rw [hbk] at BQ0 ⊢
  clear hbk
  refine (HER.out _ Hps_7.out Hqs_9.out).mono ?_
  rintro e w3 ⟨al, cl, rfl, ho3, bl⟩
  have HHL0 := Lib.hid (own_hs ho3)
  clear ho3 HER
  have b_10 := below_to b_6 bl
  have Hps_11 := Lib.hid (Hps_7.out.below bl)
  have BP_12 := BP_8.to bl
  have Hqs_13 := Lib.hid (Hqs_9.out.below bl)
  have BQ_14 := BQ0.to bl
  clear b_6 Hps_7 BP_8 Hqs_9 BQ0
  clear bl
  have bN := below_one w3 (.cells #[.slice al l cl] 25)
  have BL0 := blk_new w3 #[.slice al l cl] 25 rfl
  have b_15 := below_to b_10 bN
  have Hps_16 := Lib.hid (Hps_11.out.below bN)
  have BP_17 := BP_12.to bN
  have Hqs_18 := Lib.hid (Hqs_13.out.below bN)
  have BQ_19 := BQ_14.to bN
  have HHL_20 := Lib.hid (HHL0.out.below bN)
  clear b_10 Hps_11 BP_12 Hqs_13 BQ_14 HHL0
  clear bN
  have q0 := BQ_19.cell0 (i := 0) rfl
  go_wp2_with fail
  clear q0
  generalize w3.alloc (.cells #[.slice al l cl] 25) = U3 at *
  obtain ⟨bl3, hbk⟩ : ∃ b, w3.heap.size = b := ⟨_, rfl⟩
  rw [hbk] at BL0 ⊢
  clear hbk
  refine (HCO.out _ Hqs_18.out).mono ?_
  rintro e w4 ⟨ac, cc, rfl, ho4, bl⟩
  have HCS0 := Lib.hid (own_hs ho4)
  clear ho4 HCO
  have b_21 := below_to b_15 bl
  have Hps_22 := Lib.hid (Hps_16.out.below bl)
  have BP_23 := BP_17.to bl
  have Hqs_24 := Lib.hid (Hqs_18.out.below bl)
  have BQ_25 := BQ_19.to bl
  have HHL_26 := Lib.hid (HHL_20.out.below bl)
  have BL_27 := BL0.to bl
  clear b_15 Hps_16 BP_17 Hqs_18 BQ_19 HHL_20 BL0
  clear bl
  have HRO := Lib.hid (fun V (h : HsAt V al L) => impl_rok al l cl L V HLL.out (by omega) K64.out h)
  rw [HRL.out] at HRO
  have HWW := Lib.hid (fun V (h : HsAt V al L) (k : HsAt V ap ps) => impl_wi al ap l p cl cp L ps V HLL.out HLps.out (by omega) (by omega) K64.out H64ps.out h k)
  rw [HWI.out] at HWW
  obtain ⟨g', o', rfl, _⟩ := HCS0.out 0 _ (HXJ.out 0 (by omega))
  clear BQ_25 Hqs_24
  have q0 := BL_27.cell0 (i := 0) rfl
  go_wp2_with fail
  clear q0
  refine (HRO.out _ HHL_26.out).mono ?_
  rintro e v1 ⟨rfl, bl⟩
  have b_28 := below_to b_21 bl
  have Hps_29 := Lib.hid (Hps_22.out.below bl)
  have BP_30 := BP_23.to bl
  have HHL_31 := Lib.hid (HHL_26.out.below bl)
  have BL_32 := BL_27.to bl
  have HCS_33 := Lib.hid (HCS0.out.below bl)
  clear b_21 Hps_22 BP_23 HHL_26 BL_27 HCS0
  clear bl
  have q0 := BL_32.cell0 (i := 0) rfl
  have q1 := BP_30.cell0 (i := 0) rfl
  go_wp2_with fail
  clear q0 q1
  refine (HWW.out _ HHL_31.out Hps_29.out).mono ?_
  rintro e v2 ⟨rfl, bl⟩
  have b_34 := below_to b_28 bl
  have Hps_35 := Lib.hid (Hps_29.out.below bl)
  have BP_36 := BP_30.to bl
  have HHL_37 := Lib.hid (HHL_31.out.below bl)
  have BL_38 := BL_32.to bl
  have HCS_39 := Lib.hid (HCS_33.out.below bl)
  clear b_28 Hps_29 BP_30 HHL_31 BL_32 HCS_33
  clear bl
  clear HRO HWW
  go_wp2
  go_loopw [8] (fun i wr => ∃ k : Nat, k ≤ 12 ∧ i = .int .i64 k ∧ Below w.heap.size w wr ∧ Below v2.heap.size v2 wr) (fun i _ => 12 - (intOf i).toNat)
  case atStart => exact ⟨0, by omega, rfl, b_34, Below.refl _ _⟩
  case round =>
    obtain ⟨k, hk, rfl, hbw, hb4⟩ := hrel
    clear b_34
    have Hps_40 := Lib.hid (Hps_35.out.below hb4)
    have BP_41 := BP_36.to hb4
    have HHL_42 := Lib.hid (HHL_37.out.below hb4)
    have BL_43 := BL_38.to hb4
    have HCS_44 := Lib.hid (HCS_39.out.below hb4)
    by_cases hk12 : k < 12
    · have v1 : IntKind.i64.wrap (4 * (k : Int)) = 4 * (k : Int) := IntWalk.i64_in _ (by omega)
      have v2 : IntKind.i64.wrap (60 + 4 * (k : Int)) = ((60 + 4 * k : Nat) : Int) := by rw [IntWalk.i64_in _ (by omega)]; omega
      have hkk : (k : Int) < 12 := by omega
      go_wp2_with fail
      refine (make_whole wr a len cap (60 + 4 * k) (by omega) hl (HB.out.below hbw)).mono ?_
      rintro e w7 ⟨X, Y, hXY, rfl, bl⟩
      clear v1 v2
      have Hps_45 := Lib.hid (Hps_40.out.below bl)
      have BP_46 := BP_41.to bl
      have HHL_47 := Lib.hid (HHL_42.out.below bl)
      have BL_48 := BL_43.to bl
      have HCS_49 := Lib.hid (HCS_44.out.below bl)
      have b_50 := below_to hbw bl
      have b4_51 := below_to hb4 bl
      clear Hps_40 BP_41 HHL_42 BL_43 HCS_44 hbw hb4
      clear bl
      have HSO := Lib.hid (whole_ok (x := X) (y := Y) (by omega) (by omega))
      obtain ⟨f1, f2⟩ := HFL.out X Y (by omega) (by omega)
      have F1 := Lib.hid f1
      have F2 := Lib.hid f2
      have HXY := Lib.hid hXY
      clear hXY f1 f2
      have HHS := Lib.hid (fun V (h : HsAt V al L) => impl_has al l cl L X Y 1 V HLL.out (by omega) K64.out (okS64' HSO.out) h)
      have HVD := Lib.hid (fun V => impl_void al l cl V)
      have bN := below_one w7 (.cells #[.int .i64 X, .int .i64 Y, .int .i64 1] 31)
      have BS0 := blk_new w7 #[.int .i64 X, .int .i64 Y, .int .i64 1] 31 rfl
      have Hps_52 := Lib.hid (Hps_45.out.below bN)
      have BP_53 := BP_46.to bN
      have HHL_54 := Lib.hid (HHL_47.out.below bN)
      have BL_55 := BL_48.to bN
      have HCS_56 := Lib.hid (HCS_49.out.below bN)
      have b_57 := below_to b_50 bN
      have b4_58 := below_to b4_51 bN
      clear Hps_45 BP_46 HHL_47 BL_48 HCS_49 b_50 b4_51
      clear bN
      go_wp2_with fail
      generalize w7.alloc (.cells #[.int .i64 X, .int .i64 Y, .int .i64 1] 31) = U5 at *
      obtain ⟨bs, hbk⟩ : ∃ b, w7.heap.size = b := ⟨_, rfl⟩
      rw [hbk] at BS0 ⊢
      clear hbk
      try go_wp2
      go_loopw [10, 59] (fun sm ut wq => ∃ t : Nat, t ≤ 4 ∧ sm = .bool (alE ps qs X Y t) ∧ ut = .int .i64 t ∧ Below w.heap.size w wq ∧ Below v2.heap.size v2 wq ∧ Below U5.heap.size U5 wq) (fun _ ut _ => 4 - (intOf ut).toNat)
      case atStart => exact ⟨0, by omega, rfl, rfl, b_57, b4_58, Below.refl _ _⟩
      case round =>
        obtain ⟨t, ht4, rfl, rfl, c1, c2, c3⟩ := hrel
        clear b_57 b4_58
        have Hps_59 := Lib.hid (Hps_52.out.below c3)
        have BP_60 := BP_53.to c3
        have HHL_61 := Lib.hid (HHL_54.out.below c3)
        have BL_62 := BL_55.to c3
        have HCS_63 := Lib.hid (HCS_56.out.below c3)
        have BS_64 := BS0.to c3
        by_cases hth : t < 4
        · obtain ⟨hc1, hca, hcb⟩ := HCR.out t hth
          obtain ⟨_, _, e1, r1, r2, r3⟩ := HCS_63.out t _ (HXJ.out t hth)
          cases e1
          have hAN := HAL.out X Y t
          rw [hc1] at r3
          generalize (crA qs t).a = A at *
          generalize (crA qs t).b = B at *
          obtain ⟨hS, hok⟩ := shift_one (X := X) (Y := Y) (a := A) (b := B) (by have := HXY.out; omega) (by have := HXY.out; omega) (by omega) (by omega)
          have HOK := Lib.hid hok
          have HSH := Lib.hid (fun V => impl_shift X Y 1 A B V (by have := HXY.out; omega) (by have := HXY.out; omega) (by have := HXY.out; omega) (by have := HXY.out; omega) (by omega) (by omega) (by omega) (by omega) (by omega) (by omega))
          rw [hS] at HSH
          unfold spotS at HSH
          have HHX := Lib.hid (fun V (h : HsAt V ap ps) => impl_has ap p cp ps (X + A) (Y + B) 1 V HLps.out (by omega) H64ps.out (okS64' HOK.out) h)
          clear hS hok hc1
          generalize hXm : X + A = X' at *
          generalize hYn : Y + B = Y' at *
          generalize hasB ps X' Y' 1 = hp at *
          have HAN := Lib.hid hAN
          clear hAN
          generalize alE ps qs X Y t = ba at *
          have rq1 := r1
          have rq2 := r2
          have rq3 := r3
          clear r1 r2 r3
          have bN := below_one wr (.cells #[.int .i64 A, .int .i64 B, .int .i64 1] 31)
          have BT0 := blk_new wr #[.int .i64 A, .int .i64 B, .int .i64 1] 31 rfl
          have Hps_65 := Lib.hid (Hps_59.out.below bN)
          have BP_66 := BP_60.to bN
          have HHL_67 := Lib.hid (HHL_61.out.below bN)
          have BL_68 := BL_62.to bN
          have HCS_69 := Lib.hid (HCS_63.out.below bN)
          have BS_70 := BS_64.to bN
          have b_71 := below_to c1 bN
          have b4_72 := below_to c2 bN
          have b5_73 := below_to c3 bN
          clear Hps_59 BP_60 HHL_61 BL_62 HCS_63 BS_64 c1 c2 c3
          clear bN
          have q0 := BS_70.cell0 (i := 0) rfl
          have q1 := BS_70.cell0 (i := 1) rfl
          have q2 := BS_70.cell0 (i := 2) rfl
          have q3 := BT0.cell0 (i := 0) rfl
          have q4 := BT0.cell0 (i := 1) rfl
          have q5 := BT0.cell0 (i := 2) rfl
          go_wp2_with fail
          clear q0 q1 q2 q3 q4 q5
          generalize wr.alloc (.cells #[.int .i64 A, .int .i64 B, .int .i64 1] 31) = U6 at *
          obtain ⟨bt, hbk⟩ : ∃ b, wr.heap.size = b := ⟨_, rfl⟩
          rw [hbk] at BT0 ⊢
          clear hbk
          clear rq1 rq2 rq3
          refine (HSH.out _).mono ?_
          rintro e w8 ⟨rfl, bl⟩
          have Hps_74 := Lib.hid (Hps_65.out.below bl)
          have BP_75 := BP_66.to bl
          have HHL_76 := Lib.hid (HHL_67.out.below bl)
          have BL_77 := BL_68.to bl
          have HCS_78 := Lib.hid (HCS_69.out.below bl)
          have BS_79 := BS_70.to bl
          have b_80 := below_to b_71 bl
          have b4_81 := below_to b4_72 bl
          have b5_82 := below_to b5_73 bl
          have BT_83 := BT0.to bl
          clear Hps_65 BP_66 HHL_67 BL_68 HCS_69 BS_70 b_71 b4_72 b5_73 BT0
          clear bl HSH
          cases ba with
          | false =>
            have bN := below_one w8 (.cells #[.int .i64 X', .int .i64 Y', .int .i64 1] 31)
            have Hps_84 := Lib.hid (Hps_74.out.below bN)
            have BP_85 := BP_75.to bN
            have HHL_86 := Lib.hid (HHL_76.out.below bN)
            have BL_87 := BL_77.to bN
            have HCS_88 := Lib.hid (HCS_78.out.below bN)
            have BS_89 := BS_79.to bN
            have b_90 := below_to b_80 bN
            have b4_91 := below_to b4_81 bN
            have b5_92 := below_to b5_82 bN
            have BT_93 := BT_83.to bN
            clear Hps_74 BP_75 HHL_76 BL_77 HCS_78 BS_79 b_80 b4_81 b5_82 BT_83
            clear bN
            go_wp2
            go_roundw
            case rel => exact ⟨t + 1, by omega, by rw [HAN.out]; rfl, by go_num, b_90, b4_91, b5_92⟩
            case measure => simp [intOf]; omega
          | true =>
            have bN := below_one w8 (.cells #[.int .i64 X', .int .i64 Y', .int .i64 1] 31)
            have BX0 := blk_new w8 #[.int .i64 X', .int .i64 Y', .int .i64 1] 31 rfl
            have Hps_94 := Lib.hid (Hps_74.out.below bN)
            have BP_95 := BP_75.to bN
            have HHL_96 := Lib.hid (HHL_76.out.below bN)
            have BL_97 := BL_77.to bN
            have HCS_98 := Lib.hid (HCS_78.out.below bN)
            have BS_99 := BS_79.to bN
            have b_100 := below_to b_80 bN
            have b4_101 := below_to b4_81 bN
            have b5_102 := below_to b5_82 bN
            have BT_103 := BT_83.to bN
            clear Hps_74 BP_75 HHL_76 BL_77 HCS_78 BS_79 b_80 b4_81 b5_82 BT_83
            clear bN
            have q0 := BP_95.cell0 (i := 0) rfl
            have q1 := BX0.cell0 (i := 0) rfl
            have q2 := BX0.cell0 (i := 1) rfl
            have q3 := BX0.cell0 (i := 2) rfl
            go_wp2_with fail
            clear q0 q1 q2 q3
            generalize w8.alloc (.cells #[.int .i64 X', .int .i64 Y', .int .i64 1] 31) = U7 at *
            obtain ⟨bx, hbk⟩ : ∃ b, w8.heap.size = b := ⟨_, rfl⟩
            rw [hbk] at BX0 ⊢
            clear hbk
            refine (HHX.out _ Hps_94.out).mono ?_
            rintro e v3 ⟨rfl, bl⟩
            have Hps_104 := Lib.hid (Hps_94.out.below bl)
            have BP_105 := BP_95.to bl
            have HHL_106 := Lib.hid (HHL_96.out.below bl)
            have BL_107 := BL_97.to bl
            have HCS_108 := Lib.hid (HCS_98.out.below bl)
            have BS_109 := BS_99.to bl
            have b_110 := below_to b_100 bl
            have b4_111 := below_to b4_101 bl
            have b5_112 := below_to b5_102 bl
            have BT_113 := BT_103.to bl
            have BX_114 := BX0.to bl
            clear Hps_94 BP_95 HHL_96 BL_97 HCS_98 BS_99 b_100 b4_101 b5_102 BT_103 BX0
            clear bl
            go_wp2
            go_roundw
            case rel => exact ⟨t + 1, by omega, by rw [HAN.out]; rfl, by go_num, b_110, b4_111, b5_112⟩
            case measure => simp [intOf]; omega
        · have hte : t = 4 := by omega
          subst hte
          clear hth ht4
          cases hh : hasB L X Y 1 with
          | true =>
            have hal := F1.out hh
            rw [hh] at HHS
            rw [hal]
            clear hh hal F1 F2
            have q0 := BL_62.cell0 (i := 0) rfl
            have q1 := BS_64.cell0 (i := 0) rfl
            have q2 := BS_64.cell0 (i := 1) rfl
            have q3 := BS_64.cell0 (i := 2) rfl
            go_wp2_with fail
            clear q0 q1 q2 q3
            refine (HHS.out _ HHL_61.out).mono ?_
            rintro e v4 ⟨rfl, bl⟩
            have Hps_115 := Lib.hid (Hps_59.out.below bl)
            have BP_116 := BP_60.to bl
            have HHL_117 := Lib.hid (HHL_61.out.below bl)
            have BL_118 := BL_62.to bl
            have HCS_119 := Lib.hid (HCS_63.out.below bl)
            have BS_120 := BS_64.to bl
            have b_121 := below_to c1 bl
            have b4_122 := below_to c2 bl
            have b5_123 := below_to c3 bl
            clear Hps_59 BP_60 HHL_61 BL_62 HCS_63 BS_64 c1 c2 c3
            clear bl
            have q0 := BL_118.cell0 (i := 0) rfl
            have q1 := BS_120.cell0 (i := 0) rfl
            have q2 := BS_120.cell0 (i := 1) rfl
            have q3 := BS_120.cell0 (i := 2) rfl
            go_wp2_with fail
            clear q0 q1 q2 q3
            refine (HHS.out _ HHL_117.out).mono ?_
            rintro e v5 ⟨rfl, bl⟩
            have Hps_124 := Lib.hid (Hps_115.out.below bl)
            have BP_125 := BP_116.to bl
            have HHL_126 := Lib.hid (HHL_117.out.below bl)
            have BL_127 := BL_118.to bl
            have HCS_128 := Lib.hid (HCS_119.out.below bl)
            have BS_129 := BS_120.to bl
            have b_130 := below_to b_121 bl
            have b4_131 := below_to b4_122 bl
            have b5_132 := below_to b5_123 bl
            clear Hps_115 BP_116 HHL_117 BL_118 HCS_119 BS_120 b_121 b4_122 b5_123
            clear bl
            go_wp2
            go_roundw
            case rel => exact ⟨k + 1, by omega, by go_num, b_130, b4_131⟩
            case measure => simp [intOf]; omega
          | false =>
            cases hal : alE ps qs X Y 4 with
            | false =>
              rw [hh] at HHS
              clear hh hal F1 F2
              have q0 := BL_62.cell0 (i := 0) rfl
              have q1 := BS_64.cell0 (i := 0) rfl
              have q2 := BS_64.cell0 (i := 1) rfl
              have q3 := BS_64.cell0 (i := 2) rfl
              go_wp2_with fail
              clear q0 q1 q2 q3
              refine (HHS.out _ HHL_61.out).mono ?_
              rintro e v6 ⟨rfl, bl⟩
              have Hps_133 := Lib.hid (Hps_59.out.below bl)
              have BP_134 := BP_60.to bl
              have HHL_135 := Lib.hid (HHL_61.out.below bl)
              have BL_136 := BL_62.to bl
              have HCS_137 := Lib.hid (HCS_63.out.below bl)
              have BS_138 := BS_64.to bl
              have b_139 := below_to c1 bl
              have b4_140 := below_to c2 bl
              have b5_141 := below_to c3 bl
              clear Hps_59 BP_60 HHL_61 BL_62 HCS_63 BS_64 c1 c2 c3
              clear bl
              have q0 := BL_136.cell0 (i := 0) rfl
              have q1 := BS_138.cell0 (i := 0) rfl
              have q2 := BS_138.cell0 (i := 1) rfl
              have q3 := BS_138.cell0 (i := 2) rfl
              go_wp2_with fail
              clear q0 q1 q2 q3
              refine (HHS.out _ HHL_135.out).mono ?_
              rintro e v7 ⟨rfl, bl⟩
              have Hps_142 := Lib.hid (Hps_133.out.below bl)
              have BP_143 := BP_134.to bl
              have HHL_144 := Lib.hid (HHL_135.out.below bl)
              have BL_145 := BL_136.to bl
              have HCS_146 := Lib.hid (HCS_137.out.below bl)
              have BS_147 := BS_138.to bl
              have b_148 := below_to b_139 bl
              have b4_149 := below_to b4_140 bl
              have b5_150 := below_to b5_141 bl
              clear Hps_133 BP_134 HHL_135 BL_136 HCS_137 BS_138 b_139 b4_140 b5_141
              clear bl
              go_wp2
              go_roundw
              case rel => exact ⟨k + 1, by omega, by go_num, b_148, b4_149⟩
              case measure => simp [intOf]; omega
            | true =>
              have hL : L = [] := by
                  by_cases n : L = []
                  · exact n
                  · have := F2.out n hal
                    rw [hh] at this
                    cases this
              have hl0 : ((l : Int) == 0) = true := by have := HLL.out; rw [hL] at this; simp at this; subst this; rfl
              rw [hh] at HHS
              rw [hl0] at HVD
              clear hh hal F1 F2 hL hl0
              have q0 := BL_62.cell0 (i := 0) rfl
              have q1 := BS_64.cell0 (i := 0) rfl
              have q2 := BS_64.cell0 (i := 1) rfl
              have q3 := BS_64.cell0 (i := 2) rfl
              go_wp2_with fail
              clear q0 q1 q2 q3
              refine (HHS.out _ HHL_61.out).mono ?_
              rintro e v8 ⟨rfl, bl⟩
              have Hps_151 := Lib.hid (Hps_59.out.below bl)
              have BP_152 := BP_60.to bl
              have HHL_153 := Lib.hid (HHL_61.out.below bl)
              have BL_154 := BL_62.to bl
              have HCS_155 := Lib.hid (HCS_63.out.below bl)
              have BS_156 := BS_64.to bl
              have b_157 := below_to c1 bl
              have b4_158 := below_to c2 bl
              have b5_159 := below_to c3 bl
              clear Hps_59 BP_60 HHL_61 BL_62 HCS_63 BS_64 c1 c2 c3
              clear bl
              have q0 := BL_154.cell0 (i := 0) rfl
              go_wp2_with fail
              clear q0
              refine (HVD.out _).mono ?_
              rintro e v9 ⟨rfl, bl⟩
              have Hps_160 := Lib.hid (Hps_151.out.below bl)
              have BP_161 := BP_152.to bl
              have HHL_162 := Lib.hid (HHL_153.out.below bl)
              have BL_163 := BL_154.to bl
              have HCS_164 := Lib.hid (HCS_155.out.below bl)
              have BS_165 := BS_156.to bl
              have b_166 := below_to b_157 bl
              have b4_167 := below_to b4_158 bl
              have b5_168 := below_to b5_159 bl
              clear Hps_151 BP_152 HHL_153 BL_154 HCS_155 BS_156 b_157 b4_158 b5_159
              clear bl
              have q0 := BL_163.cell0 (i := 0) rfl
              have q1 := BS_165.cell0 (i := 0) rfl
              have q2 := BS_165.cell0 (i := 1) rfl
              have q3 := BS_165.cell0 (i := 2) rfl
              go_wp2_with fail
              clear q0 q1 q2 q3
              refine (HHS.out _ HHL_162.out).mono ?_
              rintro e v10 ⟨rfl, bl⟩
              have Hps_169 := Lib.hid (Hps_160.out.below bl)
              have BP_170 := BP_161.to bl
              have HHL_171 := Lib.hid (HHL_162.out.below bl)
              have BL_172 := BL_163.to bl
              have HCS_173 := Lib.hid (HCS_164.out.below bl)
              have BS_174 := BS_165.to bl
              have b_175 := below_to b_166 bl
              have b4_176 := below_to b4_167 bl
              have b5_177 := below_to b5_168 bl
              clear Hps_160 BP_161 HHL_162 BL_163 HCS_164 BS_165 b_166 b4_167 b5_168
              clear bl
              go_wp2
              go_roundw
              case rel => exact ⟨k + 1, by omega, by go_num, b_175, b4_176⟩
              case measure => simp [intOf]; omega
    · have h12 : k = 12 := by omega
      subst h12
      clear hk12
      go_wp2
      go_ret
      exact ⟨rfl, hbw⟩
end Go.Proofs.Ytfndkapjclhflaa
