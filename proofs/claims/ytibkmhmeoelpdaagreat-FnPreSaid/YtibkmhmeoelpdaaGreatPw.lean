/- The walk of the law FnPre. -/
import Derived.Test.YtibkmhmeoelpdaaGreatRb
import Derived.Test.YtibkmhmeoelpdaaGreatVf
import Derived.Test.YtibkmhmeoelpdaaGreatWk
namespace Go.Proofs.YtibkmhmeoelpdaaGreat
open Go.RowKit
open Geo (H3)

set_option maxRecDepth 100000 in
set_option maxHeartbeats 1600000 in
theorem law_pre (a : Option Addr) (len cap : Nat) (w : World) (_hm : len ≤ maxLen) (hB : BytesAt w a len) :
    Calls Tryz.prog 4 #[.slice a len cap] w fun e w' => e = .returned (.bool true) ∧ Below w.heap.size w w' := by
  by_cases hle : (1048576 : Int) < (len : Int)
  · go_enter Tryz.func4, Tryz.ntmps4
    go_wp2
    go_ret
    exact ⟨rfl, Below.refl _ _⟩
  have HB := Lib.hid hB
  have hl : len ≤ 1048576 := by omega
  clear hB
  go_enter Tryz.func4, Tryz.ntmps4
  go_wp2_with fail
  refine (make_state w a len cap hl HB.out).mono ?_
  rintro e w1 ⟨zs, q, bx, cy, lo, hi, ps, qs, am, nm, cm, an, nn, cn, al, nl, cl, X, Y, hF, hXY, hsum, rfl, ⟨hA, hNL⟩, bl⟩
  have HF := Lib.hid hF
  have HXY := Lib.hid hXY
  have hlo := hF.2.2.2.2.1
  have hhi := hF.2.2.2.2.2.1
  have H64 := Lib.hid hF.r64
  have HSUM := Lib.hid (show nm + nn + nl ≤ 1048576 by omega)
  have HNL := Lib.hid (show nl ≤ 1048576 by omega)
  have HZL := Lib.hid hNL.l
  have HS64 := Lib.hid (show In64 ⟨X, Y, 1⟩ from ⟨⟨by simp only; omega, by simp only; omega⟩, ⟨by simp only; omega, by simp only; omega⟩, ⟨by simp, by simp⟩⟩)
  have HRM := Lib.hid (rb_rp hF).1
  have HRP := Lib.hid (rb_rp hF).2.1
  have HWI := Lib.hid (rb_rp hF).2.2.2
  have HNE := Lib.hid (show rpL zs q bx cy lo hi ps qs qs ≠ [] by rw [(rb_rp hF).2.2.1]; exact (rb_ero hF).2.2.1)
  have HKE := Lib.hid (fun b => rb_keep hF b)
  have HPR := Lib.hid (fun b n => rb_pre hF hXY.1 hXY.2 b n HNE.out)
  have HRK := Lib.hid (fun b => (pr_rok (zs := zs) (q := q) (bx := bx) (cy := cy) (lo := lo) (hi := hi) (ps := ps) (qs := qs) (rs := qs) b).2)
  have HRE := Lib.hid (show rokB (rpL zs q bx cy lo hi ps qs qs) = true by rw [(rb_rp hF).2.2.1]; exact (rb_ero hF).2.2.2.1)
  have HKK := Lib.hid (fun b => (kp_facts (rb_keep hF b).1).2.1)
  have HR0 := Lib.hid hA
  have HLL := Lib.hid hA.ll
  have b0 := bl
  clear hF hXY hA hNL bl hsum
  have bN := below_bx2 (below_one w1 (.cells #[.slice am nm cm, .int .i64 q, .int .i64 bx, .int .i64 cy, .int .i64 lo, .int .i64 hi, .slice an nn cn, .slice al nl cl] 42)) (.cells #[.int .i64 X, .int .i64 Y, .int .i64 1] 45)
  have BX0 := (blk_new w1 #[.slice am nm cm, .int .i64 q, .int .i64 bx, .int .i64 cy, .int .i64 lo, .int .i64 hi, .slice an nn cn, .slice al nl cl] 42 rfl).to (below_one _ (.cells #[.int .i64 X, .int .i64 Y, .int .i64 1] 45))
  have BS0 := blk_new (w1.alloc (.cells #[.slice am nm cm, .int .i64 q, .int .i64 bx, .int .i64 cy, .int .i64 lo, .int .i64 hi, .slice an nn cn, .slice al nl cl] 42)) #[.int .i64 X, .int .i64 Y, .int .i64 1] 45 (b := w1.heap.size + 1) (by simp)
  have b_1 := below_to b0 bN
  have HR_2 := Lib.hid (HR0.out.below bN)
  clear b0 HR0
  clear bN
  go_upto_region 4 with fail
  generalize (w1.alloc (.cells #[.slice am nm cm, .int .i64 q, .int .i64 bx, .int .i64 cy, .int .i64 lo, .int .i64 hi, .slice an nn cn, .slice al nl cl] 42)).alloc (.cells #[.int .i64 X, .int .i64 Y, .int .i64 1] 45) = W2 at *
  obtain ⟨xb, hxb⟩ : ∃ b, w1.heap.size = b := ⟨_, rfl⟩
  rw [hxb] at BX0 BS0 ⊢
  clear hxb
  have p7 := BX0.c8_7
  have bN := below_one W2 (.cells #[.slice al nl cl] 40)
  have BP0 := blk_new W2 #[.slice al nl cl] 40 rfl
  have b_3 := below_to b_1 bN
  have HR_4 := Lib.hid (HR_2.out.below bN)
  have BX_5 := BX0.to bN
  have BS_6 := BS0.to bN
  clear b_1 HR_2 BX0 BS0
  clear bN
  have q0 := BX_5.cell0 (i := 0) (v := .slice am nm cm) rfl
  have q1 := BX_5.cell0 (i := 1) (v := .int .i64 q) rfl
  have q2 := BX_5.cell0 (i := 2) (v := .int .i64 bx) rfl
  have q3 := BX_5.cell0 (i := 3) (v := .int .i64 cy) rfl
  have q4 := BX_5.cell0 (i := 4) (v := .int .i64 lo) rfl
  have q5 := BX_5.cell0 (i := 5) (v := .int .i64 hi) rfl
  have q6 := BX_5.cell0 (i := 6) (v := .slice an nn cn) rfl
  have q7 := BX_5.cell0 (i := 7) (v := .slice al nl cl) rfl
  have q8 := BP0.cell0 (i := 0) (v := .slice al nl cl) rfl
  go_wp2_with fail
  clear q0 q1 q2 q3 q4 q5 q6 q7 q8
  generalize W2.alloc (.cells #[.slice al nl cl] 40) = U1 at *
  obtain ⟨pb, hbk⟩ : ∃ b, W2.heap.size = b := ⟨_, rfl⟩
  rw [hbk] at BP0 ⊢
  clear hbk
  clear p7
  refine (impl_pr am nm cm zs q bx cy lo hi an nn cn ps al nl cl qs al nl cl qs U1 HR_4.out H64.out HSUM.out HLL.out HNL.out H64.out.qs HZL.out HR_4.out.hl).mono ?_
  rintro e w2 ⟨aq, cq, rfl, ho, bl⟩
  have HK0 := Lib.hid (own_hs ho)
  have HZNK := Lib.hid (own_nil ho)
  clear ho
  generalize prL zs q bx cy lo hi ps qs qs = K at *
  generalize hBK : prB zs q bx cy lo hi ps qs qs = fq at *
  have b_7 := below_to b_3 bl
  have HR_8 := Lib.hid (HR_4.out.below bl)
  have BX_9 := BX_5.to bl
  have BS_10 := BS_6.to bl
  have BP_11 := BP0.to bl
  clear b_3 HR_4 BX_5 BS_6 BP0
  clear bl
  have bN := below_one w2 (.cells #[.slice aq K.length cq] 40)
  have BQ0 := blk_new w2 #[.slice aq K.length cq] 40 rfl
  have b_12 := below_to b_7 bN
  have HR_13 := Lib.hid (HR_8.out.below bN)
  have BX_14 := BX_9.to bN
  have BS_15 := BS_10.to bN
  have BP_16 := BP_11.to bN
  have HK_17 := Lib.hid (HK0.out.below bN)
  clear b_7 HR_8 BX_9 BS_10 BP_11 HK0
  clear bN
  have q0 := BX_14.cell0 (i := 0) (v := .slice am nm cm) rfl
  have q1 := BX_14.cell0 (i := 1) (v := .int .i64 q) rfl
  have q2 := BX_14.cell0 (i := 2) (v := .int .i64 bx) rfl
  have q3 := BX_14.cell0 (i := 3) (v := .int .i64 cy) rfl
  have q4 := BX_14.cell0 (i := 4) (v := .int .i64 lo) rfl
  have q5 := BX_14.cell0 (i := 5) (v := .int .i64 hi) rfl
  have q6 := BX_14.cell0 (i := 6) (v := .slice an nn cn) rfl
  have q7 := BX_14.cell0 (i := 7) (v := .slice al nl cl) rfl
  have q8 := BP_16.cell0 (i := 0) (v := .slice al nl cl) rfl
  go_wp2_with fail
  clear q0 q1 q2 q3 q4 q5 q6 q7 q8
  generalize w2.alloc (.cells #[.slice aq K.length cq] 40) = U2 at *
  obtain ⟨qb, hbk⟩ : ∃ b, w2.heap.size = b := ⟨_, rfl⟩
  rw [hbk] at BQ0 ⊢
  clear hbk
  have HE := impl_rp am nm cm zs q bx cy lo hi an nn cn ps al nl cl qs al nl cl qs U2 HR_13.out H64.out HSUM.out HLL.out HNL.out H64.out.qs HZL.out HR_13.out.hl
  rw [HRP.out] at HE
  refine (HE).mono ?_
  rintro e w3 ⟨ae, ce, rfl, ho, bl⟩
  have HE0 := Lib.hid (own_hs ho)
  have HZNE := Lib.hid (own_nil ho)
  clear ho
  generalize rpL zs q bx cy lo hi ps qs qs = E at *
  have b_18 := below_to b_12 bl
  have HR_19 := Lib.hid (HR_13.out.below bl)
  have BX_20 := BX_14.to bl
  have BS_21 := BS_15.to bl
  have BP_22 := BP_16.to bl
  have HK_23 := Lib.hid (HK_17.out.below bl)
  have BQ_24 := BQ0.to bl
  clear b_12 HR_13 BX_14 BS_15 BP_16 HK_17 BQ0
  clear bl
  clear HE
  have bN := below_one w3 (.cells #[.slice ae E.length ce] 40)
  have BE0 := blk_new w3 #[.slice ae E.length ce] 40 rfl
  have b_25 := below_to b_18 bN
  have HR_26 := Lib.hid (HR_19.out.below bN)
  have BX_27 := BX_20.to bN
  have BS_28 := BS_21.to bN
  have BP_29 := BP_22.to bN
  have HK_30 := Lib.hid (HK_23.out.below bN)
  have BQ_31 := BQ_24.to bN
  have HE_32 := Lib.hid (HE0.out.below bN)
  clear b_18 HR_19 BX_20 BS_21 BP_22 HK_23 BQ_24 HE0
  clear bN
  have q0 := BX_27.cell0 (i := 0) (v := .slice am nm cm) rfl
  have q1 := BX_27.cell0 (i := 1) (v := .int .i64 q) rfl
  have q2 := BX_27.cell0 (i := 2) (v := .int .i64 bx) rfl
  have q3 := BX_27.cell0 (i := 3) (v := .int .i64 cy) rfl
  have q4 := BX_27.cell0 (i := 4) (v := .int .i64 lo) rfl
  have q5 := BX_27.cell0 (i := 5) (v := .int .i64 hi) rfl
  have q6 := BX_27.cell0 (i := 6) (v := .slice an nn cn) rfl
  have q7 := BX_27.cell0 (i := 7) (v := .slice al nl cl) rfl
  go_wp2_with fail
  clear q0 q1 q2 q3 q4 q5 q6 q7
  generalize w3.alloc (.cells #[.slice ae E.length ce] 40) = U3 at *
  obtain ⟨eb, hbk⟩ : ∃ b, w3.heap.size = b := ⟨_, rfl⟩
  rw [hbk] at BE0 ⊢
  clear hbk
  refine (impl_room am nm cm zs q bx cy lo hi an nn cn ps al nl cl qs U3 true HRM.out HR_26.out H64.out HSUM.out).mono ?_
  rintro e w4 ⟨rfl, bl⟩
  have b_33 := below_to b_25 bl
  have HR_34 := Lib.hid (HR_26.out.below bl)
  have BX_35 := BX_27.to bl
  have BS_36 := BS_28.to bl
  have BP_37 := BP_29.to bl
  have HK_38 := Lib.hid (HK_30.out.below bl)
  have BQ_39 := BQ_31.to bl
  have HE_40 := Lib.hid (HE_32.out.below bl)
  have BE_41 := BE0.to bl
  clear b_25 HR_26 BX_27 BS_28 BP_29 HK_30 BQ_31 HE_32 BE0
  clear bl
  have q0 := BE_41.cell0 (i := 0) (v := .slice ae E.length ce) rfl
  have q1 := BP_37.cell0 (i := 0) (v := .slice al nl cl) rfl
  go_wp2_with fail
  clear q0 q1
  have HEL := rok_len HRE.out
  have HI := impl_wi ae al E.length nl ce cl E qs w4 rfl HLL.out (by omega) HNL.out (fun x hx => ok_in64 (rok_all HRE.out x hx)) H64.out.qs HE_40.out HR_34.out.hl
  rw [HWI.out] at HI
  refine HI.mono ?_
  rintro e w5 ⟨rfl, bl⟩
  have b_42 := below_to b_33 bl
  have HR_43 := Lib.hid (HR_34.out.below bl)
  have BX_44 := BX_35.to bl
  have BS_45 := BS_36.to bl
  have BP_46 := BP_37.to bl
  have HK_47 := Lib.hid (HK_38.out.below bl)
  have BQ_48 := BQ_39.to bl
  have HE_49 := Lib.hid (HE_40.out.below bl)
  have BE_50 := BE_41.to bl
  clear b_33 HR_34 BX_35 BS_36 BP_37 HK_38 BQ_39 HE_40 BE_41
  clear bl HI HEL
  cases fq with
  | false =>
    go_wp2
    go_ret
    exact ⟨rfl, b_42⟩
  | true =>
    have q0 := BQ_48.cell0 (i := 0) (v := .slice aq K.length cq) rfl
    go_wp2_with fail
    clear q0
    refine (impl_void aq K.length cq w5).mono ?_
    rintro e w6 ⟨rfl, bl⟩
    have b_51 := below_to b_42 bl
    have HR_52 := Lib.hid (HR_43.out.below bl)
    have BX_53 := BX_44.to bl
    have BS_54 := BS_45.to bl
    have BP_55 := BP_46.to bl
    have HK_56 := Lib.hid (HK_47.out.below bl)
    have BQ_57 := BQ_48.to bl
    have HE_58 := Lib.hid (HE_49.out.below bl)
    have BE_59 := BE_50.to bl
    clear b_42 HR_43 BX_44 BS_45 BP_46 HK_47 BQ_48 HE_49 BE_50
    clear bl
    by_cases hK : K = []
    · have hz : ((K.length : Int) == 0) = true := by rw [hK]; rfl
      go_wp2
      go_ret
      exact ⟨rfl, b_51⟩
    · have hz : ((K.length : Int) == 0) = false := eq_b (by have := List.length_pos_iff.2 hK; omega)
      have HEQ := Lib.hid (HPR.out (by simp) hK)
      have hk9 := HKE.out (by simp)
      have HKB := Lib.hid hk9.1
      have HK1 := Lib.hid hk9.2.1
      have HK2 := Lib.hid hk9.2.2
      have hrk := HRK.out (by simp)
      have HRKK := Lib.hid hrk
      have HKR := Lib.hid (HKK.out (by simp))
      have hl40 := rok_len hrk
      clear hk9 hrk hBK HPR HKE HRK HKK hK
      have q0 := BE_59.cell0 (i := 0) (v := .slice ae E.length ce) rfl
      go_wp2_with fail
      clear q0
      clear hz
      refine (impl_void ae E.length ce w6).mono ?_
      rintro e w7 ⟨rfl, bl⟩
      have b_60 := below_to b_51 bl
      have HR_61 := Lib.hid (HR_52.out.below bl)
      have BX_62 := BX_53.to bl
      have BS_63 := BS_54.to bl
      have BP_64 := BP_55.to bl
      have HK_65 := Lib.hid (HK_56.out.below bl)
      have BQ_66 := BQ_57.to bl
      have HE_67 := Lib.hid (HE_58.out.below bl)
      have BE_68 := BE_59.to bl
      clear b_51 HR_52 BX_53 BS_54 BP_55 HK_56 BQ_57 HE_58 BE_59
      clear bl
      have hz : ((E.length : Int) == 0) = false := eq_b (by have := List.length_pos_iff.2 HNE.out; omega)
      have q0 := BX_62.cell0 (i := 0) (v := .slice am nm cm) rfl
      have q1 := BX_62.cell0 (i := 1) (v := .int .i64 q) rfl
      have q2 := BX_62.cell0 (i := 2) (v := .int .i64 bx) rfl
      have q3 := BX_62.cell0 (i := 3) (v := .int .i64 cy) rfl
      have q4 := BX_62.cell0 (i := 4) (v := .int .i64 lo) rfl
      have q5 := BX_62.cell0 (i := 5) (v := .int .i64 hi) rfl
      have q6 := BX_62.cell0 (i := 6) (v := .slice an nn cn) rfl
      have q7 := BX_62.cell0 (i := 7) (v := .slice al nl cl) rfl
      have q8 := BP_64.cell0 (i := 0) (v := .slice al nl cl) rfl
      go_wp2_with fail
      clear q0 q1 q2 q3 q4 q5 q6 q7 q8
      clear hz
      have HE := impl_kp am nm cm zs q bx cy lo hi an nn cn ps al nl cl qs al nl cl qs w7 HR_61.out H64.out HSUM.out HLL.out HNL.out H64.out.qs HZL.out HR_61.out.hl
      rw [HKB.out] at HE
      refine (HE).mono ?_
      rintro e w8 ⟨ak, ck, rfl, ho, bl⟩
      have HM0 := Lib.hid (own_hs ho)
      have HZNM := Lib.hid (own_nil ho)
      clear ho
      generalize kpL zs q bx cy lo hi ps qs qs = M at *
      have b_69 := below_to b_60 bl
      have HR_70 := Lib.hid (HR_61.out.below bl)
      have BX_71 := BX_62.to bl
      have BS_72 := BS_63.to bl
      have BP_73 := BP_64.to bl
      have HK_74 := Lib.hid (HK_65.out.below bl)
      have BQ_75 := BQ_66.to bl
      have HE_76 := Lib.hid (HE_67.out.below bl)
      have BE_77 := BE_68.to bl
      clear b_60 HR_61 BX_62 BS_63 BP_64 HK_65 BQ_66 HE_67 BE_68
      clear bl
      clear HE
      have bN := below_one w8 (.cells #[.slice ak M.length ck] 40)
      have BK0 := blk_new w8 #[.slice ak M.length ck] 40 rfl
      have b_78 := below_to b_69 bN
      have HR_79 := Lib.hid (HR_70.out.below bN)
      have BX_80 := BX_71.to bN
      have BS_81 := BS_72.to bN
      have BP_82 := BP_73.to bN
      have HK_83 := Lib.hid (HK_74.out.below bN)
      have BQ_84 := BQ_75.to bN
      have HE_85 := Lib.hid (HE_76.out.below bN)
      have BE_86 := BE_77.to bN
      have HM_87 := Lib.hid (HM0.out.below bN)
      clear b_69 HR_70 BX_71 BS_72 BP_73 HK_74 BQ_75 HE_76 BE_77 HM0
      clear bN
      have q0 := BX_80.cell0 (i := 0) (v := .slice am nm cm) rfl
      have q1 := BX_80.cell0 (i := 1) (v := .int .i64 q) rfl
      have q2 := BX_80.cell0 (i := 2) (v := .int .i64 bx) rfl
      have q3 := BX_80.cell0 (i := 3) (v := .int .i64 cy) rfl
      have q4 := BX_80.cell0 (i := 4) (v := .int .i64 lo) rfl
      have q5 := BX_80.cell0 (i := 5) (v := .int .i64 hi) rfl
      have q6 := BX_80.cell0 (i := 6) (v := .slice an nn cn) rfl
      have q7 := BX_80.cell0 (i := 7) (v := .slice al nl cl) rfl
      have q8 := BP_82.cell0 (i := 0) (v := .slice al nl cl) rfl
      have q9 := BS_81.cell0 (i := 0) (v := .int .i64 X) rfl
      have q10 := BS_81.cell0 (i := 1) (v := .int .i64 Y) rfl
      have q11 := BS_81.cell0 (i := 2) (v := .int .i64 1) rfl
      go_wp2_with fail
      clear q0 q1 q2 q3 q4 q5 q6 q7 q8 q9 q10 q11
      generalize w8.alloc (.cells #[.slice ak M.length ck] 40) = U8 at *
      obtain ⟨kb, hbk⟩ : ∃ b, w8.heap.size = b := ⟨_, rfl⟩
      rw [hbk] at BK0 ⊢
      clear hbk
      refine (impl_adt am nm cm zs q bx cy lo hi an nn cn ps al nl cl qs al nl cl qs X Y 1 HS64.out U8 HR_79.out H64.out HSUM.out HLL.out HNL.out H64.out.qs HZL.out HR_79.out.hl).mono ?_
      rintro e w9 ⟨rfl, bl⟩
      have b_88 := below_to b_78 bl
      have HR_89 := Lib.hid (HR_79.out.below bl)
      have BX_90 := BX_80.to bl
      have BS_91 := BS_81.to bl
      have BP_92 := BP_82.to bl
      have HK_93 := Lib.hid (HK_83.out.below bl)
      have BQ_94 := BQ_84.to bl
      have HE_95 := Lib.hid (HE_85.out.below bl)
      have BE_96 := BE_86.to bl
      have HM_97 := Lib.hid (HM_87.out.below bl)
      have BK_98 := BK0.to bl
      clear b_78 HR_79 BX_80 BS_81 BP_82 HK_83 BQ_84 HE_85 BE_86 HM_87 BK0
      clear bl
      generalize adtN zs q bx cy lo hi ps qs X Y 1 qs (adtS zs q bx cy lo hi ps qs X Y 1 qs).lN = n1 at *
      generalize adtN zs q bx cy lo hi ps qs X Y 1 qs (adtS zs q bx cy lo hi ps qs X Y 1 qs).lD = n2 at *
      generalize adtN zs q bx cy lo hi ps qs X Y 1 qs (adtS zs q bx cy lo hi ps qs X Y 1 qs).hN = n3 at *
      generalize adtN zs q bx cy lo hi ps qs X Y 1 qs (adtS zs q bx cy lo hi ps qs X Y 1 qs).hD = n4 at *
      generalize adtB zs q bx cy lo hi ps qs X Y 1 qs = R at *
      have bN := below_one w9 (.cells #[.int .i64 n1, .int .i64 n2, .int .i64 n3, .int .i64 n4] 35)
      have BA0 := blk_new w9 #[.int .i64 n1, .int .i64 n2, .int .i64 n3, .int .i64 n4] 35 rfl
      have b_99 := below_to b_88 bN
      have HR_100 := Lib.hid (HR_89.out.below bN)
      have BX_101 := BX_90.to bN
      have BS_102 := BS_91.to bN
      have BP_103 := BP_92.to bN
      have HK_104 := Lib.hid (HK_93.out.below bN)
      have BQ_105 := BQ_94.to bN
      have HE_106 := Lib.hid (HE_95.out.below bN)
      have BE_107 := BE_96.to bN
      have HM_108 := Lib.hid (HM_97.out.below bN)
      have BK_109 := BK_98.to bN
      clear b_88 HR_89 BX_90 BS_91 BP_92 HK_93 BQ_94 HE_95 BE_96 HM_97 BK_98
      clear bN
      have q0 := BK_109.cell0 (i := 0) (v := .slice ak M.length ck) rfl
      have q1 := BP_103.cell0 (i := 0) (v := .slice al nl cl) rfl
      go_wp2_with fail
      clear q0 q1
      generalize w9.alloc (.cells #[.int .i64 n1, .int .i64 n2, .int .i64 n3, .int .i64 n4] 35) = U9 at *
      obtain ⟨ab, hbk⟩ : ∃ b, w9.heap.size = b := ⟨_, rfl⟩
      rw [hbk] at BA0 ⊢
      clear hbk
      have HML := rok_len HKR.out
      have HI := impl_wi ak al M.length nl ck cl M qs U9 rfl HLL.out (by omega) HNL.out (fun x hx => ok_in64 (rok_all HKR.out x hx)) H64.out.qs HM_108.out HR_100.out.hl
      rw [HK1.out] at HI
      refine HI.mono ?_
      rintro e w10 ⟨rfl, bl⟩
      have b_110 := below_to b_99 bl
      have HR_111 := Lib.hid (HR_100.out.below bl)
      have BX_112 := BX_101.to bl
      have BS_113 := BS_102.to bl
      have BP_114 := BP_103.to bl
      have HK_115 := Lib.hid (HK_104.out.below bl)
      have BQ_116 := BQ_105.to bl
      have HE_117 := Lib.hid (HE_106.out.below bl)
      have BE_118 := BE_107.to bl
      have HM_119 := Lib.hid (HM_108.out.below bl)
      have BK_120 := BK_109.to bl
      have BA_121 := BA0.to bl
      clear b_99 HR_100 BX_101 BS_102 BP_103 HK_104 BQ_105 HE_106 BE_107 HM_108 BK_109 BA0
      clear bl HI
      have q0 := BK_120.cell0 (i := 0) (v := .slice ak M.length ck) rfl
      have q1 := BQ_116.cell0 (i := 0) (v := .slice aq K.length cq) rfl
      go_wp2_with fail
      clear q0 q1
      have HI := impl_wi ak aq M.length K.length ck cq M K w10 rfl rfl (by omega) (by omega) (fun x hx => ok_in64 (rok_all HKR.out x hx)) (fun x hx => ok_in64 (rok_all HRKK.out x hx)) HM_119.out HK_115.out
      rw [HK2.out] at HI
      refine HI.mono ?_
      rintro e w11 ⟨rfl, bl⟩
      have b_122 := below_to b_110 bl
      have HR_123 := Lib.hid (HR_111.out.below bl)
      have BX_124 := BX_112.to bl
      have BS_125 := BS_113.to bl
      have BP_126 := BP_114.to bl
      have HK_127 := Lib.hid (HK_115.out.below bl)
      have BQ_128 := BQ_116.to bl
      have HE_129 := Lib.hid (HE_117.out.below bl)
      have BE_130 := BE_118.to bl
      have HM_131 := Lib.hid (HM_119.out.below bl)
      have BK_132 := BK_120.to bl
      have BA_133 := BA_121.to bl
      clear b_110 HR_111 BX_112 BS_113 BP_114 HK_115 BQ_116 HE_117 BE_118 HM_119 BK_120 BA_121
      clear bl HI HML
      have q0 := BQ_128.cell0 (i := 0) (v := .slice aq K.length cq) rfl
      have q1 := BS_125.cell0 (i := 0) (v := .int .i64 X) rfl
      have q2 := BS_125.cell0 (i := 1) (v := .int .i64 Y) rfl
      have q3 := BS_125.cell0 (i := 2) (v := .int .i64 1) rfl
      go_wp2_with fail
      clear q0 q1 q2 q3
      have HI := impl_has aq K.length cq K X Y 1 w11 rfl (by omega) (fun x hx => ok_in64 (rok_all HRKK.out x hx)) HS64.out HK_127.out
      rw [HEQ.out] at HI
      refine HI.mono ?_
      rintro e w12 ⟨rfl, bl⟩
      have b_134 := below_to b_122 bl
      have HR_135 := Lib.hid (HR_123.out.below bl)
      have BX_136 := BX_124.to bl
      have BS_137 := BS_125.to bl
      have BP_138 := BP_126.to bl
      have HK_139 := Lib.hid (HK_127.out.below bl)
      have BQ_140 := BQ_128.to bl
      have HE_141 := Lib.hid (HE_129.out.below bl)
      have BE_142 := BE_130.to bl
      have HM_143 := Lib.hid (HM_131.out.below bl)
      have BK_144 := BK_132.to bl
      have BA_145 := BA_133.to bl
      clear b_122 HR_123 BX_124 BS_125 BP_126 HK_127 BQ_128 HE_129 BE_130 HM_131 BK_132 BA_133
      clear bl HI
      go_wp2
      go_ret
      exact ⟨by simp, b_134⟩
end Go.Proofs.YtibkmhmeoelpdaaGreat
