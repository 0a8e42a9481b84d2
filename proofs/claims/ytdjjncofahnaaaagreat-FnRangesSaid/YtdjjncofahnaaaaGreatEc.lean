/- The walk of the law FnRanges. -/
import Derived.Test.YtdjjncofahnaaaaGreatEa
import Derived.Test.YtdjjncofahnaaaaGreatEb
import Derived.Test.YtdjjncofahnaaaaGreatKg
import Derived.Test.YtdjjncofahnaaaaGreatKs
import Derived.Test.YtdjjncofahnaaaaGreatMf
namespace Go.Proofs.YtdjjncofahnaaaaGreat
open Go.RowKit
open Geo (H3)

theorem sr_refl (zs : List Int) (q bx cy lo hi : Int) (ps qs : List H3) : srB zs q bx cy lo hi ps qs zs q bx cy lo hi ps qs = true := by
  unfold srB smB sameI sameB
  simp
set_option maxRecDepth 100000 in
set_option maxHeartbeats 6400000 in
theorem law_ranges (a : Option Addr) (len cap : Nat) (w : World) (_hm : len ≤ maxLen) (hB : BytesAt w a len) :
    Calls Tryz.prog 5 #[.slice a len cap] w fun e w' => e = .returned (.bool true) ∧ Below w.heap.size w w' := by
  by_cases hle : (1048576 : Int) < (len : Int)
  · go_enter Tryz.func5, Tryz.ntmps5
    go_wp2
    go_ret
    exact ⟨rfl, Below.refl _ _⟩
  have HB := Lib.hid hB
  have hl : len ≤ 1048576 := by omega
  clear hB
  go_enter Tryz.func5, Tryz.ntmps5
  go_wp2_with fail
  refine (make_room w a len cap hl HB.out).mono ?_
  rintro e w1 ⟨zs, q, bx, cy, lo, hi, ps, qs, am, nm, cm, an, nn, cn, al, nl, cl, hF, hsum, rfl, hA, bl⟩
  have HF := Lib.hid hF
  have hlo := hF.2.2.2.2.1
  have hhi := hF.2.2.2.2.2.1
  have H64 := Lib.hid hF.r64
  have HRM := Lib.hid (hF.rm (lo' := lo) (hi' := hi) (by omega) (by omega))
  have HRM2 := Lib.hid (hF.rm (lo' := lo - 2) (hi' := hi + 3) (by omega) (by omega))
  have HSUM := Lib.hid (show nm + nn + nl ≤ 1048576 by omega)
  have HR0 := Lib.hid hA
  have HLM := Lib.hid hA.lm
  have HLN := Lib.hid hA.ln
  have HLL := Lib.hid hA.ll
  have b0 := bl
  clear hF hA bl hsum
  have bN := below_one w1 (.cells #[.slice am nm cm, .int .i64 q, .int .i64 bx, .int .i64 cy, .int .i64 lo, .int .i64 hi, .slice an nn cn, .slice al nl cl] 28)
  have BX0 := blk_new w1 #[.slice am nm cm, .int .i64 q, .int .i64 bx, .int .i64 cy, .int .i64 lo, .int .i64 hi, .slice an nn cn, .slice al nl cl] 28 rfl
  have b_1 := below_to b0 bN
  have HR_2 := Lib.hid (HR0.out.below bN)
  clear b0 HR0
  clear bN
  have q0 := BX0.cell0 (i := 0) (v := .slice am nm cm) rfl
  have q1 := BX0.cell0 (i := 1) (v := .int .i64 q) rfl
  have q2 := BX0.cell0 (i := 2) (v := .int .i64 bx) rfl
  have q3 := BX0.cell0 (i := 3) (v := .int .i64 cy) rfl
  have q4 := BX0.cell0 (i := 4) (v := .int .i64 lo) rfl
  have q5 := BX0.cell0 (i := 5) (v := .int .i64 hi) rfl
  have q6 := BX0.cell0 (i := 6) (v := .slice an nn cn) rfl
  have q7 := BX0.cell0 (i := 7) (v := .slice al nl cl) rfl
  go_wp2_with fail
  clear q0 q1 q2 q3 q4 q5 q6 q7
  generalize w1.alloc (.cells #[.slice am nm cm, .int .i64 q, .int .i64 bx, .int .i64 cy, .int .i64 lo, .int .i64 hi, .slice an nn cn, .slice al nl cl] 28) = U1 at *
  obtain ⟨xb, hbk⟩ : ∃ b, w1.heap.size = b := ⟨_, rfl⟩
  rw [hbk] at BX0 ⊢
  clear hbk
  have HWR := Lib.hid (impl_wra am nm cm zs q bx cy lo hi an nn cn ps al nl cl qs U1 (lo - 2) (hi + 3) HR_2.out H64.out (by omega) (by omega) HSUM.out)
  rw [HRM.out, HRM2.out] at HWR
  refine HWR.out.mono ?_
  rintro e w2 (⟨h, _⟩ | ⟨_, am2, cm2, an2, cn2, al2, cl2, rfl, ho, bl⟩)
  · cases h
  clear HWR
  rw [HLM.out, HLN.out, HLL.out] at ho ⊢
  have HS0 := Lib.hid ho.at
  clear ho
  have b_3 := below_to b_1 bl
  have HR_4 := Lib.hid (HR_2.out.below bl)
  have BX_5 := BX0.to bl
  clear b_1 HR_2 BX0
  clear bl
  have bN := below_one w2 (.cells #[.slice am2 nm cm2, .int .i64 q, .int .i64 bx, .int .i64 cy, .int .i64 (lo - 2), .int .i64 (hi + 3), .slice an2 nn cn2, .slice al2 nl cl2] 28)
  have BY0 := blk_new w2 #[.slice am2 nm cm2, .int .i64 q, .int .i64 bx, .int .i64 cy, .int .i64 (lo - 2), .int .i64 (hi + 3), .slice an2 nn cn2, .slice al2 nl cl2] 28 rfl
  have b_6 := below_to b_3 bN
  have HR_7 := Lib.hid (HR_4.out.below bN)
  have BX_8 := BX_5.to bN
  have HS_9 := Lib.hid (HS0.out.below bN)
  clear b_3 HR_4 BX_5 HS0
  clear bN
  have q0 := BX_8.cell0 (i := 0) (v := .slice am nm cm) rfl
  have q1 := BX_8.cell0 (i := 1) (v := .int .i64 q) rfl
  have q2 := BX_8.cell0 (i := 2) (v := .int .i64 bx) rfl
  have q3 := BX_8.cell0 (i := 3) (v := .int .i64 cy) rfl
  have q4 := BX_8.cell0 (i := 4) (v := .int .i64 lo) rfl
  have q5 := BX_8.cell0 (i := 5) (v := .int .i64 hi) rfl
  have q6 := BX_8.cell0 (i := 6) (v := .slice an nn cn) rfl
  have q7 := BX_8.cell0 (i := 7) (v := .slice al nl cl) rfl
  go_wp2_with fail
  clear q0 q1 q2 q3 q4 q5 q6 q7
  generalize w2.alloc (.cells #[.slice am2 nm cm2, .int .i64 q, .int .i64 bx, .int .i64 cy, .int .i64 (lo - 2), .int .i64 (hi + 3), .slice an2 nn cn2, .slice al2 nl cl2] 28) = U2 at *
  obtain ⟨yb, hbk⟩ : ∃ b, w2.heap.size = b := ⟨_, rfl⟩
  rw [hbk] at BY0 ⊢
  clear hbk
  refine (impl_kr am nm cm zs q bx cy lo hi an nn cn ps al nl cl qs U2 HR_7.out H64.out HSUM.out).mono ?_
  rintro e w3 ⟨ap, cp, rfl, ho, bl⟩
  have Hp0 := Lib.hid (own_hs ho)
  clear ho
  generalize hLp : kgL zs q bx cy lo hi ps qs = p at *
  generalize hBp : kgB zs q bx cy lo hi ps qs = fp at *
  have b_10 := below_to b_6 bl
  have HR_11 := Lib.hid (HR_7.out.below bl)
  have BX_12 := BX_8.to bl
  have HS_13 := Lib.hid (HS_9.out.below bl)
  have BY_14 := BY0.to bl
  clear b_6 HR_7 BX_8 HS_9 BY0
  clear bl
  have bN := below_one w3 (.cells #[.slice ap p.length cp] 26)
  have BP0 := blk_new w3 #[.slice ap p.length cp] 26 rfl
  have b_15 := below_to b_10 bN
  have HR_16 := Lib.hid (HR_11.out.below bN)
  have BX_17 := BX_12.to bN
  have HS_18 := Lib.hid (HS_13.out.below bN)
  have BY_19 := BY_14.to bN
  have Hp_20 := Lib.hid (Hp0.out.below bN)
  clear b_10 HR_11 BX_12 HS_13 BY_14 Hp0
  clear bN
  have q0 := BY_19.cell0 (i := 0) (v := .slice am2 nm cm2) rfl
  have q1 := BY_19.cell0 (i := 1) (v := .int .i64 q) rfl
  have q2 := BY_19.cell0 (i := 2) (v := .int .i64 bx) rfl
  have q3 := BY_19.cell0 (i := 3) (v := .int .i64 cy) rfl
  have q4 := BY_19.cell0 (i := 4) (v := .int .i64 (lo - 2)) rfl
  have q5 := BY_19.cell0 (i := 5) (v := .int .i64 (hi + 3)) rfl
  have q6 := BY_19.cell0 (i := 6) (v := .slice an2 nn cn2) rfl
  have q7 := BY_19.cell0 (i := 7) (v := .slice al2 nl cl2) rfl
  go_wp2_with fail
  clear q0 q1 q2 q3 q4 q5 q6 q7
  generalize w3.alloc (.cells #[.slice ap p.length cp] 26) = U3 at *
  obtain ⟨bbp, hbk⟩ : ∃ b, w3.heap.size = b := ⟨_, rfl⟩
  rw [hbk] at BP0 ⊢
  clear hbk
  have H642 := Lib.hid (show R64 q bx cy (lo - 2) (hi + 3) ps qs from ⟨H64.out.q, H64.out.bx, H64.out.cy, ⟨by omega, by omega⟩, ⟨by omega, by omega⟩, H64.out.ps, H64.out.qs⟩)
  refine (impl_kr am2 nm cm2 zs q bx cy (lo - 2) (hi + 3) an2 nn cn2 ps al2 nl cl2 qs U3 HS_18.out H642.out HSUM.out).mono ?_
  rintro e w4 ⟨ar, cr, rfl, ho, bl⟩
  have Hr0 := Lib.hid (own_hs ho)
  clear ho
  generalize hLr : kgL zs q bx cy (lo - 2) (hi + 3) ps qs = r at *
  generalize hBr : kgB zs q bx cy (lo - 2) (hi + 3) ps qs = fr at *
  have b_21 := below_to b_15 bl
  have HR_22 := Lib.hid (HR_16.out.below bl)
  have BX_23 := BX_17.to bl
  have HS_24 := Lib.hid (HS_18.out.below bl)
  have BY_25 := BY_19.to bl
  have Hp_26 := Lib.hid (Hp_20.out.below bl)
  have BP_27 := BP0.to bl
  clear b_15 HR_16 BX_17 HS_18 BY_19 Hp_20 BP0
  clear bl
  have bN := below_one w4 (.cells #[.slice ar r.length cr] 26)
  have BR0 := blk_new w4 #[.slice ar r.length cr] 26 rfl
  have b_28 := below_to b_21 bN
  have HR_29 := Lib.hid (HR_22.out.below bN)
  have BX_30 := BX_23.to bN
  have HS_31 := Lib.hid (HS_24.out.below bN)
  have BY_32 := BY_25.to bN
  have Hp_33 := Lib.hid (Hp_26.out.below bN)
  have BP_34 := BP_27.to bN
  have Hr_35 := Lib.hid (Hr0.out.below bN)
  clear b_21 HR_22 BX_23 HS_24 BY_25 Hp_26 BP_27 Hr0
  clear bN
  have q0 := BX_30.cell0 (i := 0) (v := .slice am nm cm) rfl
  have q1 := BX_30.cell0 (i := 1) (v := .int .i64 q) rfl
  have q2 := BX_30.cell0 (i := 2) (v := .int .i64 bx) rfl
  have q3 := BX_30.cell0 (i := 3) (v := .int .i64 cy) rfl
  have q4 := BX_30.cell0 (i := 4) (v := .int .i64 lo) rfl
  have q5 := BX_30.cell0 (i := 5) (v := .int .i64 hi) rfl
  have q6 := BX_30.cell0 (i := 6) (v := .slice an nn cn) rfl
  have q7 := BX_30.cell0 (i := 7) (v := .slice al nl cl) rfl
  go_wp2_with fail
  clear q0 q1 q2 q3 q4 q5 q6 q7
  generalize w4.alloc (.cells #[.slice ar r.length cr] 26) = U4 at *
  obtain ⟨bbr, hbk⟩ : ∃ b, w4.heap.size = b := ⟨_, rfl⟩
  rw [hbk] at BR0 ⊢
  clear hbk
  have HWN := Lib.hid (impl_wno am nm cm zs q bx cy lo hi an nn cn ps al nl cl qs U4 an nn cn ps HR_29.out H64.out HLN.out HR_29.out.hn H64.out.ps HSUM.out HSUM.out)
  rw [HRM.out] at HWN
  refine HWN.out.mono ?_
  rintro e w5 (⟨h, _⟩ | ⟨_, am3, cm3, an3, cn3, al3, cl3, rfl, ho, bl⟩)
  · cases h
  clear HWN
  rw [HLM.out, HLN.out, HLL.out] at ho ⊢
  have HN0 := Lib.hid ho.at
  clear ho
  have b_36 := below_to b_28 bl
  have HR_37 := Lib.hid (HR_29.out.below bl)
  have BX_38 := BX_30.to bl
  have HS_39 := Lib.hid (HS_31.out.below bl)
  have BY_40 := BY_32.to bl
  have Hp_41 := Lib.hid (Hp_33.out.below bl)
  have BP_42 := BP_34.to bl
  have Hr_43 := Lib.hid (Hr_35.out.below bl)
  have BR_44 := BR0.to bl
  clear b_28 HR_29 BX_30 HS_31 BY_32 Hp_33 BP_34 Hr_35 BR0
  clear bl
  have bN := below_one w5 (.cells #[.slice am3 nm cm3, .int .i64 q, .int .i64 bx, .int .i64 cy, .int .i64 lo, .int .i64 hi, .slice an3 nn cn3, .slice al3 nl cl3] 28)
  have BN0 := blk_new w5 #[.slice am3 nm cm3, .int .i64 q, .int .i64 bx, .int .i64 cy, .int .i64 lo, .int .i64 hi, .slice an3 nn cn3, .slice al3 nl cl3] 28 rfl
  have b_45 := below_to b_36 bN
  have HR_46 := Lib.hid (HR_37.out.below bN)
  have BX_47 := BX_38.to bN
  have HS_48 := Lib.hid (HS_39.out.below bN)
  have BY_49 := BY_40.to bN
  have Hp_50 := Lib.hid (Hp_41.out.below bN)
  have BP_51 := BP_42.to bN
  have Hr_52 := Lib.hid (Hr_43.out.below bN)
  have BR_53 := BR_44.to bN
  have HN_54 := Lib.hid (HN0.out.below bN)
  clear b_36 HR_37 BX_38 HS_39 BY_40 Hp_41 BP_42 Hr_43 BR_44 HN0
  clear bN
  have q0 := BX_47.cell0 (i := 0) (v := .slice am nm cm) rfl
  have q1 := BX_47.cell0 (i := 1) (v := .int .i64 q) rfl
  have q2 := BX_47.cell0 (i := 2) (v := .int .i64 bx) rfl
  have q3 := BX_47.cell0 (i := 3) (v := .int .i64 cy) rfl
  have q4 := BX_47.cell0 (i := 4) (v := .int .i64 lo) rfl
  have q5 := BX_47.cell0 (i := 5) (v := .int .i64 hi) rfl
  have q6 := BX_47.cell0 (i := 6) (v := .slice an nn cn) rfl
  have q7 := BX_47.cell0 (i := 7) (v := .slice al nl cl) rfl
  go_wp2_with fail
  clear q0 q1 q2 q3 q4 q5 q6 q7
  generalize w5.alloc (.cells #[.slice am3 nm cm3, .int .i64 q, .int .i64 bx, .int .i64 cy, .int .i64 lo, .int .i64 hi, .slice an3 nn cn3, .slice al3 nl cl3] 28) = U5 at *
  obtain ⟨nb, hbk⟩ : ∃ b, w5.heap.size = b := ⟨_, rfl⟩
  rw [hbk] at BN0 ⊢
  clear hbk
  refine (impl_room am nm cm zs q bx cy lo hi an nn cn ps al nl cl qs U5 true HRM.out HR_46.out H64.out HSUM.out).mono ?_
  rintro e w6 ⟨rfl, bl⟩
  have b_55 := below_to b_45 bl
  have HR_56 := Lib.hid (HR_46.out.below bl)
  have BX_57 := BX_47.to bl
  have HS_58 := Lib.hid (HS_48.out.below bl)
  have BY_59 := BY_49.to bl
  have Hp_60 := Lib.hid (Hp_50.out.below bl)
  have BP_61 := BP_51.to bl
  have Hr_62 := Lib.hid (Hr_52.out.below bl)
  have BR_63 := BR_53.to bl
  have HN_64 := Lib.hid (HN_54.out.below bl)
  have BN_65 := BN0.to bl
  clear b_45 HR_46 BX_47 HS_48 BY_49 Hp_50 BP_51 Hr_52 BR_53 HN_54 BN0
  clear bl
  have q0 := BN_65.cell0 (i := 0) (v := .slice am3 nm cm3) rfl
  have q1 := BN_65.cell0 (i := 1) (v := .int .i64 q) rfl
  have q2 := BN_65.cell0 (i := 2) (v := .int .i64 bx) rfl
  have q3 := BN_65.cell0 (i := 3) (v := .int .i64 cy) rfl
  have q4 := BN_65.cell0 (i := 4) (v := .int .i64 lo) rfl
  have q5 := BN_65.cell0 (i := 5) (v := .int .i64 hi) rfl
  have q6 := BN_65.cell0 (i := 6) (v := .slice an3 nn cn3) rfl
  have q7 := BN_65.cell0 (i := 7) (v := .slice al3 nl cl3) rfl
  have q8 := BX_57.cell0 (i := 0) (v := .slice am nm cm) rfl
  have q9 := BX_57.cell0 (i := 1) (v := .int .i64 q) rfl
  have q10 := BX_57.cell0 (i := 2) (v := .int .i64 bx) rfl
  have q11 := BX_57.cell0 (i := 3) (v := .int .i64 cy) rfl
  have q12 := BX_57.cell0 (i := 4) (v := .int .i64 lo) rfl
  have q13 := BX_57.cell0 (i := 5) (v := .int .i64 hi) rfl
  have q14 := BX_57.cell0 (i := 6) (v := .slice an nn cn) rfl
  have q15 := BX_57.cell0 (i := 7) (v := .slice al nl cl) rfl
  go_wp2_with fail
  clear q0 q1 q2 q3 q4 q5 q6 q7 q8 q9 q10 q11 q12 q13 q14 q15
  refine (impl_sro am3 nm cm3 zs q bx cy lo hi an3 nn cn3 ps al3 nl cl3 qs am nm cm zs q bx cy lo hi an nn cn ps al nl cl qs w6 true (sr_refl zs q bx cy lo hi ps qs) HN_64.out HR_56.out HSUM.out).mono ?_
  rintro e w7 ⟨rfl, bl⟩
  have b_66 := below_to b_55 bl
  have HR_67 := Lib.hid (HR_56.out.below bl)
  have BX_68 := BX_57.to bl
  have HS_69 := Lib.hid (HS_58.out.below bl)
  have BY_70 := BY_59.to bl
  have Hp_71 := Lib.hid (Hp_60.out.below bl)
  have BP_72 := BP_61.to bl
  have Hr_73 := Lib.hid (Hr_62.out.below bl)
  have BR_74 := BR_63.to bl
  have HN_75 := Lib.hid (HN_64.out.below bl)
  have BN_76 := BN_65.to bl
  clear b_55 HR_56 BX_57 HS_58 BY_59 Hp_60 BP_61 Hr_62 BR_63 HN_64 BN_65
  clear bl
  cases fp with
  | false =>
    go_wp2
    go_ret
    exact ⟨rfl, b_66⟩
  | true =>
    cases fr with
    | false =>
      go_wp2
      go_ret
      exact ⟨rfl, b_66⟩
    | true =>
      have HW := Lib.hid (kg_wider hBp hBr (by omega) (by omega))
      rw [hLp, hLr] at HW
      have h40p : p.length ≤ 40 ∧ ∀ x ∈ p, In64 x := by rw [← hLp]; exact kgL_len
      have h40r : r.length ≤ 40 ∧ ∀ x ∈ r, In64 x := by rw [← hLr]; exact kgL_len
      have HWI := Lib.hid (impl_wi ap ar p.length r.length cp cr p r w7 rfl rfl (by omega) (by omega) h40p.2 h40r.2 Hp_71.out Hr_73.out)
      rw [HW.out] at HWI
      clear h40p h40r hLp hLr hBp hBr
      have q0 := BP_72.cell0 (i := 0) (v := .slice ap p.length cp) rfl
      have q1 := BR_74.cell0 (i := 0) (v := .slice ar r.length cr) rfl
      go_wp2_with fail
      clear q0 q1
      refine HWI.out.mono ?_
      rintro e w8 ⟨rfl, bl⟩
      have b_77 := below_to b_66 bl
      have HR_78 := Lib.hid (HR_67.out.below bl)
      have BX_79 := BX_68.to bl
      have HS_80 := Lib.hid (HS_69.out.below bl)
      have BY_81 := BY_70.to bl
      have Hp_82 := Lib.hid (Hp_71.out.below bl)
      have BP_83 := BP_72.to bl
      have Hr_84 := Lib.hid (Hr_73.out.below bl)
      have BR_85 := BR_74.to bl
      have HN_86 := Lib.hid (HN_75.out.below bl)
      have BN_87 := BN_76.to bl
      clear b_66 HR_67 BX_68 HS_69 BY_70 Hp_71 BP_72 Hr_73 BR_74 HN_75 BN_76
      go_wp2
      go_ret
      exact ⟨rfl, b_77⟩
end Go.Proofs.YtdjjncofahnaaaaGreat
