/- The walk of the law FnGrown. -/
import Derived.Test.YtfndkapjclhflaaAh
import Derived.Test.YtfndkapjclhflaaAg
namespace Go.Proofs.Ytfndkapjclhflaa
open Go.RowKit
open Geo (H3)

theorem shift_one {X Y a b : Int} (hX : -40 ≤ X ∧ X ≤ 39) (hY : -40 ≤ Y ∧ Y ≤ 39) (ha : -100 ≤ a ∧ a ≤ 100) (hb : -100 ≤ b ∧ b ≤ 100) : shiftS X Y 1 a b = spotS (X + a) (Y + b) 1 ∧ okS (X + a) (Y + b) 1 = true := by
  have o := whole_ok (x := X) (y := Y) (by omega) (by omega)
  obtain ⟨X', Y', D', g, hA, ok, hg, e1, e2, e3⟩ := has_spot (x := X + a * 1) (y := Y + b * 1) (d := 1) (by omega) (by omega) (by omega) (by omega) (by omega) (by omega)
  have hD := ok_pos ok
  have g1 : g = 1 := by
    rcases Int.lt_or_le 1 g with k | k
    · have : 1 * 1 < D' * g := Int.lt_of_lt_of_le (by omega) (Int.mul_le_mul_of_nonneg_right hD (show 0 ≤ g by omega) : 1 * g ≤ D' * g)
      omega
    · omega
  subst g1
  obtain ⟨rfl, rfl, rfl⟩ : X' = X + a ∧ Y' = Y + b ∧ D' = 1 := by omega
  refine ⟨?_, whole_ok (by omega) (by omega)⟩
  unfold shiftS
  rw [if_pos ⟨o, by omega, by omega, by omega, by omega⟩, hA]
theorem eleven_in {t b : Int} (ht : -11 ≤ t ∧ t ≤ 11) (hb : -3 ≤ b ∧ b ≤ 3) : -33 ≤ t * b ∧ t * b ≤ 33 := by
  rcases (by omega : b = -3 ∨ b = -2 ∨ b = -1 ∨ b = 0 ∨ b = 1 ∨ b = 2 ∨ b = 3) with rfl | rfl | rfl | rfl | rfl | rfl | rfl <;> omega
set_option maxRecDepth 100000 in
set_option maxHeartbeats 6400000 in
theorem law_grown (a : Option Addr) (len cap : Nat) (w : World) (_hm : len ≤ maxLen) (hB : BytesAt w a len) :
    Calls Try.prog 7 #[.slice a len cap] w fun e w' => e = .returned (.bool true) ∧ Below w.heap.size w w' := by
  by_cases hle : (1048576 : Int) < (len : Int)
  · go_enter Try.func7, Try.ntmps7
    go_wp2
    go_ret
    exact ⟨rfl, Below.refl _ _⟩
  have HB := Lib.hid hB
  have hl : len ≤ 1048576 := by omega
  clear hB
  go_enter Try.func7, Try.ntmps7
  go_wp2_with fail
  refine (make_area w a len cap 1 (by omega) hl HB.out).mono ?_
  rintro e w1 ⟨ps, x0, y0, u0, v0, ap, cp, hAF, rfl, ho1, bl⟩
  have HFps := Lib.hid hAF
  have Hps0 := Lib.hid (own_hs ho1)
  have HZps := Lib.hid (own_nil ho1)
  clear hAF ho1
  obtain ⟨p, hp⟩ : ∃ p, ps.length = p := ⟨_, rfl⟩
  rw [hp] at HZps ⊢
  have HLps := Lib.hid hp
  clear hp
  have b0 := bl
  clear bl
  have hA := HFps.out
  have HR := Lib.hid hA.1
  have HN := Lib.hid hA.2.1
  have hpl : p ≤ 10 := by have := hA.2.2.1; have := HLps.out; omega
  have H64 := Lib.hid (fun h hh => ok_in64 (rok_all hA.1 h hh))
  clear hA
  have bN := below_one w1 (.cells #[.slice ap p cp] 25)
  have BP0 := blk_new w1 #[.slice ap p cp] 25 rfl
  have b_1 := below_to b0 bN
  have Hps_2 := Lib.hid (Hps0.out.below bN)
  clear b0 Hps0
  clear bN
  go_wp2_with fail
  generalize w1.alloc (.cells #[.slice ap p cp] 25) = U1 at *
  obtain ⟨bp, hbk⟩ : ∃ b, w1.heap.size = b := ⟨_, rfl⟩
  rw [hbk] at BP0 ⊢
  clear hbk
  refine (make_num U1 a len cap 40 (by omega) hl (HB.out.below b_1)).mono ?_
  rintro e w2 ⟨n1, hn1, rfl, bl⟩
  have rn1 := rem_in (n := 7) (by omega) hn1
  clear hn1
  have b_3 := below_to b_1 bl
  have Hps_4 := Lib.hid (Hps_2.out.below bl)
  have BP_5 := BP0.to bl
  clear b_1 Hps_2 BP0
  clear bl
  have hA : -3 ≤ n1.tmod 7 - 3 ∧ n1.tmod 7 - 3 ≤ 3 := by omega
  go_wp2_with fail
  generalize n1.tmod 7 - 3 = A at *
  clear rn1
  refine (make_num w2 a len cap 42 (by omega) hl (HB.out.below b_3)).mono ?_
  rintro e w3 ⟨n2, hn2, rfl, bl⟩
  have rn2 := rem_in (n := 7) (by omega) hn2
  clear hn2
  have b_6 := below_to b_3 bl
  have Hps_7 := Lib.hid (Hps_4.out.below bl)
  have BP_8 := BP_5.to bl
  clear b_3 Hps_4 BP_5
  clear bl
  have hB : -3 ≤ n2.tmod 7 - 3 ∧ n2.tmod 7 - 3 ≤ 3 := by omega
  go_wp2_with fail
  generalize n2.tmod 7 - 3 = B at *
  clear rn2
  refine (make_num w3 a len cap 44 (by omega) hl (HB.out.below b_6)).mono ?_
  rintro e w4 ⟨n3, hn3, rfl, bl⟩
  have rn3 := rem_in (n := 8) (by omega) hn3
  clear hn3
  have b_9 := below_to b_6 bl
  have Hps_10 := Lib.hid (Hps_7.out.below bl)
  have BP_11 := BP_8.to bl
  clear b_6 Hps_7 BP_8
  clear bl
  have hlo : -7 ≤ -(n3.tmod 8) ∧ -(n3.tmod 8) ≤ 0 := by omega
  go_wp2_with fail
  generalize -(n3.tmod 8) = lo at *
  clear rn3
  refine (make_num w4 a len cap 46 (by omega) hl (HB.out.below b_9)).mono ?_
  rintro e w5 ⟨n4, hn4, rfl, bl⟩
  have rn4 := rem_in (n := 12) (by omega) hn4
  clear hn4
  have b_12 := below_to b_9 bl
  have Hps_13 := Lib.hid (Hps_10.out.below bl)
  have BP_14 := BP_11.to bl
  clear b_9 Hps_10 BP_11
  clear bl
  have hhi : lo ≤ lo + n4.tmod 12 ∧ lo + n4.tmod 12 ≤ lo + 11 := by omega
  have q0 := BP_14.cell0 (i := 0) rfl
  go_wp2_with fail
  clear q0
  generalize lo + n4.tmod 12 = hi at *
  clear rn4
  refine (impl_grw ap p cp ps A B lo hi w5 HLps.out (by omega) H64.out HZps.out Hps_13.out).mono ?_
  rintro e w6 ⟨aq, cq, rfl, ho3, bl⟩
  have HGF := Lib.hid (grow_facts HFps.out hA hB hlo hhi)
  have hql := gw_len ps A B lo hi
  generalize gwL ps A B lo hi = L at *
  generalize gwB ps A B lo hi = R at *
  have HHL0 := Lib.hid (own_hs ho3)
  clear ho3
  obtain ⟨l, hl3⟩ : ∃ l, L.length = l := ⟨_, rfl⟩
  rw [hl3] at hql ⊢
  have HLL := Lib.hid hl3
  clear hl3
  have b_15 := below_to b_12 bl
  have Hps_16 := Lib.hid (Hps_13.out.below bl)
  have BP_17 := BP_14.to bl
  clear b_12 Hps_13 BP_14
  clear bl
  have bN := below_one w6 (.cells #[.slice aq l cq] 25)
  have BQ0 := blk_new w6 #[.slice aq l cq] 25 rfl
  have b_18 := below_to b_15 bN
  have Hps_19 := Lib.hid (Hps_16.out.below bN)
  have BP_20 := BP_17.to bN
  have HHL_21 := Lib.hid (HHL0.out.below bN)
  clear b_15 Hps_16 BP_17 HHL0
  clear bN
  have q0 := BP_20.cell0 (i := 0) rfl
  go_wp2_with fail
  clear q0
  generalize w6.alloc (.cells #[.slice aq l cq] 25) = U2 at *
  obtain ⟨bq, hbk⟩ : ∃ b, w6.heap.size = b := ⟨_, rfl⟩
  rw [hbk] at BQ0 ⊢
  clear hbk
  have HRO := Lib.hid (fun V (h : HsAt V ap ps) => impl_rok ap p cp ps V HLps.out (by omega) H64.out h)
  rw [HR.out] at HRO
  refine (HRO.out _ Hps_19.out).mono ?_
  rintro e v1 ⟨rfl, bl⟩
  have b_22 := below_to b_18 bl
  have Hps_23 := Lib.hid (Hps_19.out.below bl)
  have BP_24 := BP_20.to bl
  have HHL_25 := Lib.hid (HHL_21.out.below bl)
  have BQ_26 := BQ0.to bl
  clear b_18 Hps_19 BP_20 HHL_21 BQ0
  clear bl
  clear HRO
  cases R with
  | false =>
    by_cases hA0 : A = 0
    · have hB0 : B ≠ 0 := by
        intro hB0
        have := HGF.out.1 ⟨hA0, hB0⟩
        cases this
      have q1 : (A == 0) = true := by simpa using hA0
      have q2 : (B == 0) = false := by simpa using hB0
      have q3 : (A != 0) = false := by simp [hA0]
      have q4 : (B != 0) = true := by simp [hB0]
      go_wp2
      go_ret
      exact ⟨rfl, b_22⟩
    · have q1 : (A == 0) = false := by simpa using hA0
      have q3 : (A != 0) = true := by simp [hA0]
      go_wp2
      go_ret
      exact ⟨rfl, b_22⟩
  | true =>
    obtain ⟨hrl, hwi, hfl⟩ := HGF.out.2 rfl
    have HRL := Lib.hid hrl
    have HWI := Lib.hid hwi
    have HFL := Lib.hid hfl
    clear HGF hrl hwi hfl
    have K64 := Lib.hid (fun h hh => ok_in64 (rok_all HRL.out h hh))
    have HWW := Lib.hid (fun V (h : HsAt V ap ps) (k : HsAt V aq L) => impl_wi ap aq p l cp cq ps L V HLps.out HLL.out (by omega) (by omega) H64.out K64.out h k)
    go_upto_region 13 with fail
    go_cut [69] from 58 to 69 (fun s6 wx => s6 = .bool false ∧ Below v1.heap.size v1 wx)
    case first =>
      by_cases hc : 0 ≤ hi
      · have hw := HWI.out hlo.2 hc
        rw [hw] at HWW
        have q1 : decide (lo ≤ 0) = true := decide_eq_true hlo.2
        have q2 : decide (0 ≤ hi) = true := decide_eq_true hc
        clear hw
        have q0 := BP_24.cell0 (i := 0) rfl
        have q1 := BQ_26.cell0 (i := 0) rfl
        go_wp2_with fail
        clear q0 q1
        refine (HWW.out _ Hps_23.out HHL_25.out).mono ?_
        rintro e wB ⟨rfl, blB⟩
        go_wp2_with fail
        go_meet
        exact ⟨rfl, blB⟩
      · have q1 : decide (lo ≤ 0) = true := decide_eq_true hlo.2
        have q2 : decide (0 ≤ hi) = false := decide_eq_false hc
        go_wp2_with fail
        go_meet
        exact ⟨rfl, Below.refl _ _⟩
    case rest =>
      obtain ⟨rfl, hb6⟩ := hcut
      rename World => wc
      have b_27 := below_to b_22 hb6
      have Hps_28 := Lib.hid (Hps_23.out.below hb6)
      have BP_29 := BP_24.to hb6
      have HHL_30 := Lib.hid (HHL_25.out.below hb6)
      have BQ_31 := BQ_26.to hb6
      clear b_22 Hps_23 BP_24 HHL_25 BQ_26
      clear hb6 HWI HWW
      go_wp2
      go_loopw [10] (fun i wr => ∃ k : Nat, k ≤ 12 ∧ i = .int .i64 k ∧ Below w.heap.size w wr ∧ Below wc.heap.size wc wr) (fun i _ => 12 - (intOf i).toNat)
      case atStart => exact ⟨0, by omega, rfl, b_27, Below.refl _ _⟩
      case round =>
        obtain ⟨k, hk, rfl, hbw, hb4⟩ := hrel
        clear b_27
        have Hps_32 := Lib.hid (Hps_28.out.below hb4)
        have BP_33 := BP_29.to hb4
        have HHL_34 := Lib.hid (HHL_30.out.below hb4)
        have BQ_35 := BQ_31.to hb4
        by_cases hk12 : k < 12
        · have v1 : IntKind.i64.wrap (4 * (k : Int)) = 4 * (k : Int) := IntWalk.i64_in _ (by omega)
          have v2 : IntKind.i64.wrap (60 + 4 * (k : Int)) = ((60 + 4 * k : Nat) : Int) := by rw [IntWalk.i64_in _ (by omega)]; omega
          have hkk : (k : Int) < 12 := by omega
          go_wp2_with fail
          refine (make_whole wr a len cap (60 + 4 * k) (by omega) hl (HB.out.below hbw)).mono ?_
          rintro e w7 ⟨X, Y, hXY, rfl, bl⟩
          clear v1 v2
          have Hps_36 := Lib.hid (Hps_32.out.below bl)
          have BP_37 := BP_33.to bl
          have HHL_38 := Lib.hid (HHL_34.out.below bl)
          have BQ_39 := BQ_35.to bl
          have b_40 := below_to hbw bl
          have b4_41 := below_to hb4 bl
          clear Hps_32 BP_33 HHL_34 BQ_35 hbw hb4
          clear bl
          have HSO := Lib.hid (whole_ok (x := X) (y := Y) (by omega) (by omega))
          have HXY := Lib.hid hXY
          clear hXY
          have HHS := Lib.hid (fun V (h : HsAt V aq L) => impl_has aq l cq L X Y 1 V HLL.out (by omega) K64.out (okS64' HSO.out) h)
          have bN := below_one w7 (.cells #[.int .i64 X, .int .i64 Y, .int .i64 1] 31)
          have BS0 := blk_new w7 #[.int .i64 X, .int .i64 Y, .int .i64 1] 31 rfl
          have Hps_42 := Lib.hid (Hps_36.out.below bN)
          have BP_43 := BP_37.to bN
          have HHL_44 := Lib.hid (HHL_38.out.below bN)
          have BQ_45 := BQ_39.to bN
          have b_46 := below_to b_40 bN
          have b4_47 := below_to b4_41 bN
          clear Hps_36 BP_37 HHL_38 BQ_39 b_40 b4_41
          clear bN
          go_wp2_with fail
          generalize w7.alloc (.cells #[.int .i64 X, .int .i64 Y, .int .i64 1] 31) = U5 at *
          obtain ⟨bs, hbk⟩ : ∃ b, w7.heap.size = b := ⟨_, rfl⟩
          rw [hbk] at BS0 ⊢
          clear hbk
          try go_wp2
          go_loopw [12, 13] (fun sm ut wq => ∃ (b : Bool) (t : Int), sm = .bool b ∧ ut = .int .i64 t ∧ lo ≤ t ∧ t ≤ hi + 1 ∧ (b = true → hasB L X Y 1 = true) ∧ Below w.heap.size w wq ∧ Below wc.heap.size wc wq ∧ Below U5.heap.size U5 wq) (fun _ ut _ => (hi + 1 - intOf ut).toNat)
          case atStart => exact ⟨false, lo, rfl, rfl, by omega, by omega, by simp, b_46, b4_47, Below.refl _ _⟩
          case round =>
            obtain ⟨b, t, rfl, rfl, ht1, ht2, himp, c1, c2, c3⟩ := hrel
            have HIM := Lib.hid himp
            clear himp b_46 b4_47
            have Hps_48 := Lib.hid (Hps_42.out.below c3)
            have BP_49 := BP_43.to c3
            have HHL_50 := Lib.hid (HHL_44.out.below c3)
            have BQ_51 := BQ_45.to c3
            have BS_52 := BS0.to c3
            by_cases hth : t ≤ hi
            · have m1 := eleven_in (t := t) (by omega) hA
              have m2 := eleven_in (t := t) (by omega) hB
              obtain ⟨hS, hok⟩ := shift_one (X := X) (Y := Y) (a := t * A) (b := t * B) (by have := HXY.out; omega) (by have := HXY.out; omega) (by omega) (by omega)
              have HFI := Lib.hid (fun k => HFL.out X Y t HSO.out hok ht1 hth k)
              have HOK := Lib.hid hok
              have HSH := Lib.hid (fun V => impl_shift X Y 1 (t * A) (t * B) V (by have := HXY.out; omega) (by have := HXY.out; omega) (by have := HXY.out; omega) (by have := HXY.out; omega) (by omega) (by omega) (by omega) (by omega) (by omega) (by omega))
              rw [hS] at HSH
              unfold spotS at HSH
              have HHX := Lib.hid (fun V (h : HsAt V ap ps) => impl_has ap p cp ps (X + t * A) (Y + t * B) 1 V HLps.out (by omega) H64.out (okS64' HOK.out) h)
              obtain ⟨m, hm⟩ : ∃ m, t * A = m := ⟨_, rfl⟩
              obtain ⟨n, hn⟩ : ∃ m, t * B = m := ⟨_, rfl⟩
              rw [hm] at m1 HSH HFI HHX HOK
              rw [hn] at m2 HSH HFI HHX HOK
              clear hS hok
              have q0 := BS_52.cell0 (i := 0) rfl
              have q1 := BS_52.cell0 (i := 1) rfl
              have q2 := BS_52.cell0 (i := 2) rfl
              go_wp2_with fail
              clear q0 q1 q2
              refine (HSH.out _).mono ?_
              rintro e w8 ⟨rfl, bl⟩
              have Hps_53 := Lib.hid (Hps_48.out.below bl)
              have BP_54 := BP_49.to bl
              have HHL_55 := Lib.hid (HHL_50.out.below bl)
              have BQ_56 := BQ_51.to bl
              have BS_57 := BS_52.to bl
              have b_58 := below_to c1 bl
              have b4_59 := below_to c2 bl
              have b5_60 := below_to c3 bl
              clear Hps_48 BP_49 HHL_50 BQ_51 BS_52 c1 c2 c3
              clear bl HSH
              generalize hXm : X + m = X' at *
              generalize hYn : Y + n = Y' at *
              generalize hhp : hasB ps X' Y' 1 = hp at *
              cases b with
              | true =>
                have bN := below_one w8 (.cells #[.int .i64 X', .int .i64 Y', .int .i64 1] 31)
                have Hps_61 := Lib.hid (Hps_53.out.below bN)
                have BP_62 := BP_54.to bN
                have HHL_63 := Lib.hid (HHL_55.out.below bN)
                have BQ_64 := BQ_56.to bN
                have BS_65 := BS_57.to bN
                have b_66 := below_to b_58 bN
                have b4_67 := below_to b4_59 bN
                have b5_68 := below_to b5_60 bN
                clear Hps_53 BP_54 HHL_55 BQ_56 BS_57 b_58 b4_59 b5_60
                clear bN
                go_wp2
                go_roundw
                case rel => exact ⟨true, t + 1, rfl, by go_num, by omega, by omega, fun _ => HIM.out (by trivial), b_66, b4_67, b5_68⟩
                case measure => simp [intOf]; omega
              | false =>
                have bN := below_one w8 (.cells #[.int .i64 X', .int .i64 Y', .int .i64 1] 31)
                have BX0 := blk_new w8 #[.int .i64 X', .int .i64 Y', .int .i64 1] 31 rfl
                have Hps_69 := Lib.hid (Hps_53.out.below bN)
                have BP_70 := BP_54.to bN
                have HHL_71 := Lib.hid (HHL_55.out.below bN)
                have BQ_72 := BQ_56.to bN
                have BS_73 := BS_57.to bN
                have b_74 := below_to b_58 bN
                have b4_75 := below_to b4_59 bN
                have b5_76 := below_to b5_60 bN
                clear Hps_53 BP_54 HHL_55 BQ_56 BS_57 b_58 b4_59 b5_60
                clear bN
                have q0 := BP_70.cell0 (i := 0) rfl
                go_wp2_with fail
                clear q0
                generalize w8.alloc (.cells #[.int .i64 X', .int .i64 Y', .int .i64 1] 31) = U6 at *
                obtain ⟨bx, hbk⟩ : ∃ b, w8.heap.size = b := ⟨_, rfl⟩
                rw [hbk] at BX0 ⊢
                clear hbk
                have q0 := BX0.cell0 (i := 0) rfl
                have q1 := BX0.cell0 (i := 1) rfl
                have q2 := BX0.cell0 (i := 2) rfl
                try go_wp2_with fail
                clear q0 q1 q2
                refine (HHX.out _ Hps_69.out).mono ?_
                rintro e w9 ⟨rfl, bl⟩
                have Hps_77 := Lib.hid (Hps_69.out.below bl)
                have BP_78 := BP_70.to bl
                have HHL_79 := Lib.hid (HHL_71.out.below bl)
                have BQ_80 := BQ_72.to bl
                have BS_81 := BS_73.to bl
                have b_82 := below_to b_74 bl
                have b4_83 := below_to b4_75 bl
                have b5_84 := below_to b5_76 bl
                have BX_85 := BX0.to bl
                clear Hps_69 BP_70 HHL_71 BQ_72 BS_73 b_74 b4_75 b5_76 BX0
                clear bl
                go_wp2
                go_roundw
                case rel => exact ⟨hp, t + 1, rfl, by go_num, by omega, by omega, HFI.out, b_82, b4_83, b5_84⟩
                case measure => simp [intOf]; omega
            · have hte : t = hi + 1 := by omega
              cases b with
              | true =>
                have hh := HIM.out (by trivial)
                rw [hh] at HHS
                clear hh
                have q0 := BQ_51.cell0 (i := 0) rfl
                have q1 := BS_52.cell0 (i := 0) rfl
                have q2 := BS_52.cell0 (i := 1) rfl
                have q3 := BS_52.cell0 (i := 2) rfl
                go_wp2_with fail
                clear q0 q1 q2 q3
                refine (HHS.out _ HHL_50.out).mono ?_
                rintro e v2 ⟨rfl, bl⟩
                have Hps_86 := Lib.hid (Hps_48.out.below bl)
                have BP_87 := BP_49.to bl
                have HHL_88 := Lib.hid (HHL_50.out.below bl)
                have BQ_89 := BQ_51.to bl
                have BS_90 := BS_52.to bl
                have b_91 := below_to c1 bl
                have b4_92 := below_to c2 bl
                have b5_93 := below_to c3 bl
                clear Hps_48 BP_49 HHL_50 BQ_51 BS_52 c1 c2 c3
                clear bl
                go_wp2
                go_roundw
                case rel => exact ⟨k + 1, by omega, by go_num, b_91, b4_92⟩
                case measure => simp [intOf]; omega
              | false =>
                go_wp2
                go_roundw
                case rel => exact ⟨k + 1, by omega, by go_num, c1, c2⟩
                case measure => simp [intOf]; omega
        · have h12 : k = 12 := by omega
          subst h12
          clear hk12
          have HRF := Lib.hid (fun V (h : HsAt V aq L) => impl_rok aq l cq L V HLL.out (by omega) K64.out h)
          rw [HRL.out] at HRF
          have q0 := BQ_35.cell0 (i := 0) rfl
          go_wp2_with fail
          clear q0
          refine (HRF.out _ HHL_34.out).mono ?_
          rintro e v3 ⟨rfl, bl⟩
          have Hps_94 := Lib.hid (Hps_32.out.below bl)
          have BP_95 := BP_33.to bl
          have HHL_96 := Lib.hid (HHL_34.out.below bl)
          have BQ_97 := BQ_35.to bl
          have b_98 := below_to hbw bl
          have b4_99 := below_to hb4 bl
          clear Hps_32 BP_33 HHL_34 BQ_35 hbw hb4
          clear bl
          go_wp2
          go_ret
          exact ⟨rfl, b_98⟩
end Go.Proofs.Ytfndkapjclhflaa
