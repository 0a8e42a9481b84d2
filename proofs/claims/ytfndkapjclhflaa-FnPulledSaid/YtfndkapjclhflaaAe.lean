/- The walk of the law FnPulled. -/
import Derived.Test.YtfndkapjclhflaaAd
namespace Go.Proofs.Ytfndkapjclhflaa
open Go.RowKit
open Geo (H3)

set_option maxRecDepth 100000 in
set_option maxHeartbeats 6400000 in
theorem law_pulled (a : Option Addr) (len cap : Nat) (w : World) (_hm : len ≤ maxLen) (hB : BytesAt w a len) :
    Calls Try.prog 8 #[.slice a len cap] w fun e w' => e = .returned (.bool true) ∧ Below w.heap.size w w' := by
  by_cases hle : (1048576 : Int) < (len : Int)
  · go_enter Try.func8, Try.ntmps8
    go_wp2
    go_ret
    exact ⟨rfl, Below.refl _ _⟩
  have HB := Lib.hid hB
  have hl : len ≤ 1048576 := by omega
  clear hB
  go_enter Try.func8, Try.ntmps8
  go_wp2_with fail
  refine (make_area w a len cap 1 (by omega) hl HB.out).mono ?_
  rintro e w1 ⟨ps, x, y, u, v, ap, cp, hAF, rfl, ho1, bl⟩
  have HFps := Lib.hid hAF
  have Hps0 := Lib.hid (own_hs ho1)
  have HZps := Lib.hid (own_nil ho1)
  clear hAF ho1
  obtain ⟨p, hp⟩ : ∃ p, ps.length = p := ⟨_, rfl⟩
  rw [hp] at HZps ⊢
  have HLps := Lib.hid hp
  clear hp
  have b0 := bl
  clear bl
  have hA := HFps.out
  have HR := Lib.hid hA.1
  have HN := Lib.hid hA.2.1
  have hpl : p ≤ 10 := by have := hA.2.2.1; have := HLps.out; omega
  have H64 := Lib.hid (fun h hh => ok_in64 (rok_all hA.1 h hh))
  clear hA
  have bN := below_one w1 (.cells #[.slice ap p cp] 25)
  have BP0 := blk_new w1 #[.slice ap p cp] 25 rfl
  have b_1 := below_to b0 bN
  have Hps_2 := Lib.hid (Hps0.out.below bN)
  clear b0 Hps0
  clear bN
  go_wp2_with fail
  generalize w1.alloc (.cells #[.slice ap p cp] 25) = U1 at *
  obtain ⟨bp, hbk⟩ : ∃ b, w1.heap.size = b := ⟨_, rfl⟩
  rw [hbk] at BP0 ⊢
  clear hbk
  refine (make_map U1 a len cap 30 (by omega) hl (HB.out.below b_1)).mono ?_
  rintro e w2 ⟨zs, q, am, cm, hF, rfl, hM, bl⟩
  have HMF := Lib.hid hF
  have HM0 := Lib.hid hM
  have hz4 : zs.length = 4 := by obtain ⟨_, ⟨z0, z1, z2, z3, e, _⟩, _⟩ := hF; rw [e]; rfl
  clear hF hM
  have b_3 := below_to b_1 bl
  have Hps_4 := Lib.hid (Hps_2.out.below bl)
  have BP_5 := BP0.to bl
  clear b_1 Hps_2 BP0
  clear bl
  have q0 := BP_5.cell0 (i := 0) rfl
  go_wp2_with fail
  clear q0
  refine (impl_pb ap p cp ps am 4 cm zs q w2 HLps.out (by omega) H64.out hz4 Hps_4.out HM0.out).mono ?_
  rintro e w3 ⟨aq, cq, rfl, ho3, bl⟩
  have HPF := Lib.hid (fun hb => pull_facts HR.out HN.out (zs := zs) (q := q) hb)
  have hql := pbk_len ps zs q
  generalize pbkL ps zs q = L at *
  generalize pbkB ps zs q = R at *
  have HHL0 := Lib.hid (own_hs ho3)
  clear ho3
  obtain ⟨l, hl3⟩ : ∃ l, L.length = l := ⟨_, rfl⟩
  rw [hl3] at hql ⊢
  have HLL := Lib.hid hl3
  clear hl3
  have b_6 := below_to b_3 bl
  have Hps_7 := Lib.hid (Hps_4.out.below bl)
  have BP_8 := BP_5.to bl
  have HM_9 := Lib.hid (HM0.out.below bl)
  clear b_3 Hps_4 BP_5 HM0
  clear bl
  have bN := below_one w3 (.cells #[.slice aq l cq] 25)
  have BQ0 := blk_new w3 #[.slice aq l cq] 25 rfl
  have b_10 := below_to b_6 bN
  have Hps_11 := Lib.hid (Hps_7.out.below bN)
  have BP_12 := BP_8.to bN
  have HM_13 := Lib.hid (HM_9.out.below bN)
  have HHL_14 := Lib.hid (HHL0.out.below bN)
  clear b_6 Hps_7 BP_8 HM_9 HHL0
  clear bN
  have q0 := BP_12.cell0 (i := 0) rfl
  go_wp2_with fail
  clear q0
  generalize w3.alloc (.cells #[.slice aq l cq] 25) = U2 at *
  obtain ⟨bq, hbk⟩ : ∃ b, w3.heap.size = b := ⟨_, rfl⟩
  rw [hbk] at BQ0 ⊢
  clear hbk
  have HRO := Lib.hid (fun V (h : HsAt V ap ps) => impl_rok ap p cp ps V HLps.out (by omega) H64.out h)
  rw [HR.out] at HRO
  refine (HRO.out _ Hps_11.out).mono ?_
  rintro e v1 ⟨rfl, bl⟩
  have b_15 := below_to b_10 bl
  have Hps_16 := Lib.hid (Hps_11.out.below bl)
  have BP_17 := BP_12.to bl
  have HM_18 := Lib.hid (HM_13.out.below bl)
  have HHL_19 := Lib.hid (HHL_14.out.below bl)
  have BQ_20 := BQ0.to bl
  clear b_10 Hps_11 BP_12 HM_13 HHL_14 BQ0
  clear bl
  clear HRO
  cases R with
  | false =>
    go_wp2
    go_ret
    exact ⟨rfl, b_15⟩
  | true =>
    obtain ⟨hrl, hfl⟩ := HPF.out rfl
    have HRL := Lib.hid hrl
    have HFL := Lib.hid hfl
    clear HPF hrl hfl
    have K64 := Lib.hid (fun h hh => ok_in64 (rok_all HRL.out h hh))
    go_wp2
    go_loopw [8] (fun i wr => ∃ k : Nat, k ≤ 12 ∧ i = .int .i64 k ∧ Below w.heap.size w wr ∧ Below v1.heap.size v1 wr) (fun i _ => 12 - (intOf i).toNat)
    case atStart => exact ⟨0, by omega, rfl, b_15, Below.refl _ _⟩
    case round =>
      obtain ⟨k, hk, rfl, hbw, hb4⟩ := hrel
      clear b_15
      have Hps_21 := Lib.hid (Hps_16.out.below hb4)
      have BP_22 := BP_17.to hb4
      have HM_23 := Lib.hid (HM_18.out.below hb4)
      have HHL_24 := Lib.hid (HHL_19.out.below hb4)
      have BQ_25 := BQ_20.to hb4
      by_cases hk12 : k < 12
      · have v1 : IntKind.i64.wrap (4 * (k : Int)) = 4 * (k : Int) := IntWalk.i64_in _ (by omega)
        have v2 : IntKind.i64.wrap (60 + 4 * (k : Int)) = ((60 + 4 * k : Nat) : Int) := by rw [IntWalk.i64_in _ (by omega)]; omega
        have hkk : (k : Int) < 12 := by omega
        go_wp2_with fail
        refine (make_whole wr a len cap (60 + 4 * k) (by omega) hl (HB.out.below hbw)).mono ?_
        rintro e w5 ⟨X, Y, hXY, rfl, bl⟩
        clear v1 v2
        have Hps_26 := Lib.hid (Hps_21.out.below bl)
        have BP_27 := BP_22.to bl
        have HM_28 := Lib.hid (HM_23.out.below bl)
        have HHL_29 := Lib.hid (HHL_24.out.below bl)
        have BQ_30 := BQ_25.to bl
        have b_31 := below_to hbw bl
        have b4_32 := below_to hb4 bl
        clear Hps_21 BP_22 HM_23 HHL_24 BQ_25 hbw hb4
        clear bl
        have HSO := Lib.hid (whole_ok (x := X) (y := Y) (by omega) (by omega))
        obtain ⟨X', Y', D', G, hA, hok, hG, e1, e2, e3⟩ := map_spot HMF.out (X := X) (Y := Y) (by omega) (by omega)
        obtain ⟨f1, f2⟩ := HFL.out X Y X' Y' D' G HSO.out hok hG e1 e2 e3
        have F1 := Lib.hid f1
        have F2 := Lib.hid f2
        have HSO2 := Lib.hid hok
        have HMS := Lib.hid (fun V (h : IsAt V am zs) => impl_ms X Y 1 am 4 cm zs q V (okS64' HSO.out) hz4 h)
        rw [hA] at HMS
        unfold spotS at HMS
        clear hXY hA hok hG e1 e2 e3 f1 f2
        have bN := below_one w5 (.cells #[.int .i64 X, .int .i64 Y, .int .i64 1] 31)
        have BS0 := blk_new w5 #[.int .i64 X, .int .i64 Y, .int .i64 1] 31 rfl
        have Hps_33 := Lib.hid (Hps_26.out.below bN)
        have BP_34 := BP_27.to bN
        have HM_35 := Lib.hid (HM_28.out.below bN)
        have HHL_36 := Lib.hid (HHL_29.out.below bN)
        have BQ_37 := BQ_30.to bN
        have b_38 := below_to b_31 bN
        have b4_39 := below_to b4_32 bN
        clear Hps_26 BP_27 HM_28 HHL_29 BQ_30 b_31 b4_32
        clear bN
        have q0 := BS0.cell0 (i := 0) rfl
        have q1 := BS0.cell0 (i := 1) rfl
        have q2 := BS0.cell0 (i := 2) rfl
        go_wp2_with fail
        clear q0 q1 q2
        generalize w5.alloc (.cells #[.int .i64 X, .int .i64 Y, .int .i64 1] 31) = U5 at *
        obtain ⟨bs, hbk⟩ : ∃ b, w5.heap.size = b := ⟨_, rfl⟩
        rw [hbk] at BS0 ⊢
        clear hbk
        refine (HMS.out _ HM_35.out).mono ?_
        rintro e v2 ⟨rfl, bl⟩
        have Hps_40 := Lib.hid (Hps_33.out.below bl)
        have BP_41 := BP_34.to bl
        have HM_42 := Lib.hid (HM_35.out.below bl)
        have HHL_43 := Lib.hid (HHL_36.out.below bl)
        have BQ_44 := BQ_37.to bl
        have b_45 := below_to b_38 bl
        have b4_46 := below_to b4_39 bl
        have BS_47 := BS0.to bl
        clear Hps_33 BP_34 HM_35 HHL_36 BQ_37 b_38 b4_39 BS0
        clear bl
        clear HMS
        have bN := below_one v2 (.cells #[.int .i64 X', .int .i64 Y', .int .i64 D'] 31)
        have BX0 := blk_new v2 #[.int .i64 X', .int .i64 Y', .int .i64 D'] 31 rfl
        have Hps_48 := Lib.hid (Hps_40.out.below bN)
        have BP_49 := BP_41.to bN
        have HM_50 := Lib.hid (HM_42.out.below bN)
        have HHL_51 := Lib.hid (HHL_43.out.below bN)
        have BQ_52 := BQ_44.to bN
        have b_53 := below_to b_45 bN
        have b4_54 := below_to b4_46 bN
        have BS_55 := BS_47.to bN
        clear Hps_40 BP_41 HM_42 HHL_43 BQ_44 b_45 b4_46 BS_47
        clear bN
        have q0 := BQ_52.cell0 (i := 0) rfl
        have q1 := BS_55.cell0 (i := 0) rfl
        have q2 := BS_55.cell0 (i := 1) rfl
        have q3 := BS_55.cell0 (i := 2) rfl
        go_wp2_with fail
        clear q0 q1 q2 q3
        generalize v2.alloc (.cells #[.int .i64 X', .int .i64 Y', .int .i64 D'] 31) = U6 at *
        obtain ⟨bx, hbk⟩ : ∃ b, v2.heap.size = b := ⟨_, rfl⟩
        rw [hbk] at BX0 ⊢
        clear hbk
        have HHS := Lib.hid (fun V (h : HsAt V aq L) => impl_has aq l cq L X Y 1 V HLL.out (by omega) K64.out (okS64' HSO.out) h)
        have HHX := Lib.hid (fun V (h : HsAt V ap ps) => impl_has ap p cp ps X' Y' D' V HLps.out (by omega) H64.out (okS64' HSO2.out) h)
        have HVD := Lib.hid (fun V => impl_void aq l cq V)
        cases hH : hasB L X Y 1 with
        | true =>
          have hx := F1.out hH
          have hne : L ≠ [] := by intro e; rw [e, has_void] at hH; cases hH
          have hl0 : ((l : Int) == 0) = false := by have : 0 < L.length := List.length_pos_iff.2 hne; rw [HLL.out] at this; exact eq_b (by omega)
          rw [hH] at HHS
          rw [hx] at HHX
          rw [hl0] at HVD
          clear hH hx hne hl0 F1 F2
          refine (HHS.out _ HHL_51.out).mono ?_
          rintro e v3 ⟨rfl, bl⟩
          have Hps_56 := Lib.hid (Hps_48.out.below bl)
          have BP_57 := BP_49.to bl
          have HM_58 := Lib.hid (HM_50.out.below bl)
          have HHL_59 := Lib.hid (HHL_51.out.below bl)
          have BQ_60 := BQ_52.to bl
          have b_61 := below_to b_53 bl
          have b4_62 := below_to b4_54 bl
          have BS_63 := BS_55.to bl
          have BX_64 := BX0.to bl
          clear Hps_48 BP_49 HM_50 HHL_51 BQ_52 b_53 b4_54 BS_55 BX0
          clear bl
          have q0 := BP_57.cell0 (i := 0) rfl
          have q1 := BX_64.cell0 (i := 0) rfl
          have q2 := BX_64.cell0 (i := 1) rfl
          have q3 := BX_64.cell0 (i := 2) rfl
          go_wp2_with fail
          clear q0 q1 q2 q3
          refine (HHX.out _ Hps_56.out).mono ?_
          rintro e v4 ⟨rfl, bl⟩
          have Hps_65 := Lib.hid (Hps_56.out.below bl)
          have BP_66 := BP_57.to bl
          have HM_67 := Lib.hid (HM_58.out.below bl)
          have HHL_68 := Lib.hid (HHL_59.out.below bl)
          have BQ_69 := BQ_60.to bl
          have b_70 := below_to b_61 bl
          have b4_71 := below_to b4_62 bl
          have BS_72 := BS_63.to bl
          have BX_73 := BX_64.to bl
          clear Hps_56 BP_57 HM_58 HHL_59 BQ_60 b_61 b4_62 BS_63 BX_64
          clear bl
          have q0 := BQ_69.cell0 (i := 0) rfl
          go_wp2_with fail
          clear q0
          refine (HVD.out _).mono ?_
          rintro e v5 ⟨rfl, bl⟩
          have Hps_74 := Lib.hid (Hps_65.out.below bl)
          have BP_75 := BP_66.to bl
          have HM_76 := Lib.hid (HM_67.out.below bl)
          have HHL_77 := Lib.hid (HHL_68.out.below bl)
          have BQ_78 := BQ_69.to bl
          have b_79 := below_to b_70 bl
          have b4_80 := below_to b4_71 bl
          have BS_81 := BS_72.to bl
          have BX_82 := BX_73.to bl
          clear Hps_65 BP_66 HM_67 HHL_68 BQ_69 b_70 b4_71 BS_72 BX_73
          clear bl
          have q0 := BP_75.cell0 (i := 0) rfl
          have q1 := BX_82.cell0 (i := 0) rfl
          have q2 := BX_82.cell0 (i := 1) rfl
          have q3 := BX_82.cell0 (i := 2) rfl
          go_wp2_with fail
          clear q0 q1 q2 q3
          refine (HHX.out _ Hps_74.out).mono ?_
          rintro e v6 ⟨rfl, bl⟩
          have Hps_83 := Lib.hid (Hps_74.out.below bl)
          have BP_84 := BP_75.to bl
          have HM_85 := Lib.hid (HM_76.out.below bl)
          have HHL_86 := Lib.hid (HHL_77.out.below bl)
          have BQ_87 := BQ_78.to bl
          have b_88 := below_to b_79 bl
          have b4_89 := below_to b4_80 bl
          have BS_90 := BS_81.to bl
          have BX_91 := BX_82.to bl
          clear Hps_74 BP_75 HM_76 HHL_77 BQ_78 b_79 b4_80 BS_81 BX_82
          clear bl
          have q0 := BQ_87.cell0 (i := 0) rfl
          have q1 := BS_90.cell0 (i := 0) rfl
          have q2 := BS_90.cell0 (i := 1) rfl
          have q3 := BS_90.cell0 (i := 2) rfl
          go_wp2_with fail
          clear q0 q1 q2 q3
          refine (HHS.out _ HHL_86.out).mono ?_
          rintro e v7 ⟨rfl, bl⟩
          have Hps_92 := Lib.hid (Hps_83.out.below bl)
          have BP_93 := BP_84.to bl
          have HM_94 := Lib.hid (HM_85.out.below bl)
          have HHL_95 := Lib.hid (HHL_86.out.below bl)
          have BQ_96 := BQ_87.to bl
          have b_97 := below_to b_88 bl
          have b4_98 := below_to b4_89 bl
          have BS_99 := BS_90.to bl
          have BX_100 := BX_91.to bl
          clear Hps_83 BP_84 HM_85 HHL_86 BQ_87 b_88 b4_89 BS_90 BX_91
          clear bl
          go_wp2
          go_roundw
          case rel => exact ⟨k + 1, by omega, by go_num, b_97, b4_98⟩
          case measure => simp [intOf]; omega
        | false =>
          by_cases hne : L = []
          · have hl0 : ((l : Int) == 0) = true := by have := HLL.out; rw [hne] at this; simp at this; subst this; rfl
            rw [hH] at HHS
            rw [hl0] at HVD
            clear hH hne hl0 F1 F2 HHX
            refine (HHS.out _ HHL_51.out).mono ?_
            rintro e v8 ⟨rfl, bl⟩
            have Hps_101 := Lib.hid (Hps_48.out.below bl)
            have BP_102 := BP_49.to bl
            have HM_103 := Lib.hid (HM_50.out.below bl)
            have HHL_104 := Lib.hid (HHL_51.out.below bl)
            have BQ_105 := BQ_52.to bl
            have b_106 := below_to b_53 bl
            have b4_107 := below_to b4_54 bl
            have BS_108 := BS_55.to bl
            have BX_109 := BX0.to bl
            clear Hps_48 BP_49 HM_50 HHL_51 BQ_52 b_53 b4_54 BS_55 BX0
            clear bl
            have q0 := BQ_105.cell0 (i := 0) rfl
            go_wp2_with fail
            clear q0
            refine (HVD.out _).mono ?_
            rintro e v9 ⟨rfl, bl⟩
            have Hps_110 := Lib.hid (Hps_101.out.below bl)
            have BP_111 := BP_102.to bl
            have HM_112 := Lib.hid (HM_103.out.below bl)
            have HHL_113 := Lib.hid (HHL_104.out.below bl)
            have BQ_114 := BQ_105.to bl
            have b_115 := below_to b_106 bl
            have b4_116 := below_to b4_107 bl
            have BS_117 := BS_108.to bl
            have BX_118 := BX_109.to bl
            clear Hps_101 BP_102 HM_103 HHL_104 BQ_105 b_106 b4_107 BS_108 BX_109
            clear bl
            go_wp2
            go_roundw
            case rel => exact ⟨k + 1, by omega, by go_num, b_115, b4_116⟩
            case measure => simp [intOf]; omega
          · have hx : hasB ps X' Y' D' = false := by
              cases hx : hasB ps X' Y' D' with
              | false => rfl
              | true => have := F2.out hne hx; rw [hH] at this; cases this
            have hl0 : ((l : Int) == 0) = false := by have : 0 < L.length := List.length_pos_iff.2 hne; rw [HLL.out] at this; exact eq_b (by omega)
            rw [hH] at HHS
            rw [hx] at HHX
            rw [hl0] at HVD
            clear hH hx hne hl0 F1 F2
            refine (HHS.out _ HHL_51.out).mono ?_
            rintro e v10 ⟨rfl, bl⟩
            have Hps_119 := Lib.hid (Hps_48.out.below bl)
            have BP_120 := BP_49.to bl
            have HM_121 := Lib.hid (HM_50.out.below bl)
            have HHL_122 := Lib.hid (HHL_51.out.below bl)
            have BQ_123 := BQ_52.to bl
            have b_124 := below_to b_53 bl
            have b4_125 := below_to b4_54 bl
            have BS_126 := BS_55.to bl
            have BX_127 := BX0.to bl
            clear Hps_48 BP_49 HM_50 HHL_51 BQ_52 b_53 b4_54 BS_55 BX0
            clear bl
            have q0 := BQ_123.cell0 (i := 0) rfl
            go_wp2_with fail
            clear q0
            refine (HVD.out _).mono ?_
            rintro e v11 ⟨rfl, bl⟩
            have Hps_128 := Lib.hid (Hps_119.out.below bl)
            have BP_129 := BP_120.to bl
            have HM_130 := Lib.hid (HM_121.out.below bl)
            have HHL_131 := Lib.hid (HHL_122.out.below bl)
            have BQ_132 := BQ_123.to bl
            have b_133 := below_to b_124 bl
            have b4_134 := below_to b4_125 bl
            have BS_135 := BS_126.to bl
            have BX_136 := BX_127.to bl
            clear Hps_119 BP_120 HM_121 HHL_122 BQ_123 b_124 b4_125 BS_126 BX_127
            clear bl
            have q0 := BP_129.cell0 (i := 0) rfl
            have q1 := BX_136.cell0 (i := 0) rfl
            have q2 := BX_136.cell0 (i := 1) rfl
            have q3 := BX_136.cell0 (i := 2) rfl
            go_wp2_with fail
            clear q0 q1 q2 q3
            refine (HHX.out _ Hps_128.out).mono ?_
            rintro e v12 ⟨rfl, bl⟩
            have Hps_137 := Lib.hid (Hps_128.out.below bl)
            have BP_138 := BP_129.to bl
            have HM_139 := Lib.hid (HM_130.out.below bl)
            have HHL_140 := Lib.hid (HHL_131.out.below bl)
            have BQ_141 := BQ_132.to bl
            have b_142 := below_to b_133 bl
            have b4_143 := below_to b4_134 bl
            have BS_144 := BS_135.to bl
            have BX_145 := BX_136.to bl
            clear Hps_128 BP_129 HM_130 HHL_131 BQ_132 b_133 b4_134 BS_135 BX_136
            clear bl
            go_wp2
            go_roundw
            case rel => exact ⟨k + 1, by omega, by go_num, b_142, b4_143⟩
            case measure => simp [intOf]; omega
      · have h12 : k = 12 := by omega
        subst h12
        clear hk12
        have HRF := Lib.hid (fun V (h : HsAt V aq L) => impl_rok aq l cq L V HLL.out (by omega) K64.out h)
        rw [HRL.out] at HRF
        have q0 := BQ_25.cell0 (i := 0) rfl
        go_wp2_with fail
        clear q0
        refine (HRF.out _ HHL_24.out).mono ?_
        rintro e v13 ⟨rfl, bl⟩
        have Hps_146 := Lib.hid (Hps_21.out.below bl)
        have BP_147 := BP_22.to bl
        have HM_148 := Lib.hid (HM_23.out.below bl)
        have HHL_149 := Lib.hid (HHL_24.out.below bl)
        have BQ_150 := BQ_25.to bl
        have b_151 := below_to hbw bl
        have b4_152 := below_to hb4 bl
        clear Hps_21 BP_22 HM_23 HHL_24 BQ_25 hbw hb4
        clear bl
        go_wp2
        go_ret
        exact ⟨rfl, b_151⟩
end Go.Proofs.Ytfndkapjclhflaa
