/- The walk of the law FnKept. -/
import Derived.Test.YtdjjncofahnaaaaGreatEa
import Derived.Test.YtdjjncofahnaaaaGreatEb
import Derived.Test.YtdjjncofahnaaaaGreatVh
import Derived.Test.YtdjjncofahnaaaaGreatMf
namespace Go.Proofs.YtdjjncofahnaaaaGreat
open Go.RowKit
open Geo (H3)

theorem rem_in20 {x : Int} (h : 0 ≤ x ∧ x ≤ 65535) : 8 ≤ 8 + x.tmod 20 ∧ 8 + x.tmod 20 ≤ 27 := by
  rw [Int.tmod_eq_emod_of_nonneg h.1]
  have := Int.emod_nonneg x (show (20 : Int) ≠ 0 by omega)
  have := Int.emod_lt_of_pos x (show (0 : Int) < 20 by omega)
  omega
theorem wrap20 {y : Int} (h : 8 ≤ y ∧ y ≤ 27) : IntKind.i64.wrap y = y := IntWalk.i64_in _ (by omega)
theorem one7 {V X : World} {B : Nat} {t : TypeId} {a0 a1 a2 a3 a4 a5 a6 a7 : Value} (h : Blk V B #[a0, a1, a2, a3, a4, a5, a6, a7] t) (hb : Below V.heap.size V X) : X.cell? ⟨B, 7, none⟩ = some a7 := (h.to hb).c8_7
theorem cut_one {qs : List H3} (r : rokB qs = true) (l : qs.length ≤ 9) {C : Int} (hC : 8 ≤ C ∧ C ≤ 27) : okB ⟨1, 0, C⟩ = true ∧ cutB qs ⟨1, 0, C⟩ = true := by
  have k : okB ⟨1, 0, C⟩ = true := show okH 1 0 C = true from (okH_iff 1 0 C).2 ⟨by omega, by omega, by omega, by omega, .inl (by omega), by omega, by omega, by unfold gS; simp⟩
  refine ⟨k, ?_⟩
  unfold cutB
  rw [r, k, decide_eq_true (by omega)]
  rfl
theorem impl_cut1 (a : Option Addr) (n ca : Nat) (qs : List H3) (C : Int) (w : World) (hl : qs.length = n) (r : rokB qs = true) (l : qs.length ≤ 9) (hC : 8 ≤ C ∧ C ≤ 27) (hA : HsAt w a qs) :
    Calls Tryz.prog 17 #[.agg #[.slice a n ca], .agg #[.int .i64 1, .int .i64 0, .int .i64 C]] w (AnsR w (cutA qs ⟨1, 0, C⟩) true) := by
  have h := impl_cut a n ca qs 1 0 C w hl (by omega) (fun x hx => ok_in64 (rok_all r x hx)) ⟨⟨by simp, by simp⟩, ⟨by simp, by simp⟩, ⟨by simp only; omega, by simp only; omega⟩⟩ hA
  rwa [(cut_one r l hC).2] at h
set_option maxRecDepth 100000 in
set_option maxHeartbeats 1000000 in
theorem law_kept (a : Option Addr) (len cap : Nat) (w : World) (_hm : len ≤ maxLen) (hB : BytesAt w a len) :
    Calls Tryz.prog 3 #[.slice a len cap] w fun e w' => e = .returned (.bool true) ∧ Below w.heap.size w w' := by
  by_cases hle : (1048576 : Int) < (len : Int)
  · go_enter Tryz.func3, Tryz.ntmps3
    go_wp2
    go_ret
    exact ⟨rfl, Below.refl _ _⟩
  have HB := Lib.hid hB
  have hl : len ≤ 1048576 := by omega
  clear hB
  go_enter Tryz.func3, Tryz.ntmps3
  go_wp2_with fail
  refine (make_room w a len cap hl HB.out).mono ?_
  rintro e w1 ⟨zs, q, bx, cy, lo, hi, ps, qs, am, nm, cm, an, nn, cn, al, nl, cl, hF, hsum, rfl, hA, bl⟩
  have HF := Lib.hid hF
  have hlo := hF.2.2.2.2.1
  have hhi := hF.2.2.2.2.2.1
  have H64 := Lib.hid hF.r64
  have HRM := Lib.hid (hF.rm (lo' := lo) (hi' := hi) (by omega) (by omega))
  have HSUM := Lib.hid (show nm + nn + nl ≤ 1048576 by omega)
  have HNL := Lib.hid (show nm + nn + 40 ≤ 1048576 ∧ nl ≤ 1048576 by omega)
  have HR0 := Lib.hid hA
  have HLL := Lib.hid hA.ll
  have b0 := bl
  clear hF hA bl hsum
  have bN := below_one w1 (.cells #[.slice am nm cm, .int .i64 q, .int .i64 bx, .int .i64 cy, .int .i64 lo, .int .i64 hi, .slice an nn cn, .slice al nl cl] 28)
  have BX0 := blk_new w1 #[.slice am nm cm, .int .i64 q, .int .i64 bx, .int .i64 cy, .int .i64 lo, .int .i64 hi, .slice an nn cn, .slice al nl cl] 28 rfl
  have b_1 := below_to b0 bN
  have HR_2 := Lib.hid (HR0.out.below bN)
  clear b0 HR0
  clear bN
  have q0 := BX0.cell0 (i := 0) (v := .slice am nm cm) rfl
  have q1 := BX0.cell0 (i := 1) (v := .int .i64 q) rfl
  have q2 := BX0.cell0 (i := 2) (v := .int .i64 bx) rfl
  have q3 := BX0.cell0 (i := 3) (v := .int .i64 cy) rfl
  have q4 := BX0.cell0 (i := 4) (v := .int .i64 lo) rfl
  have q5 := BX0.cell0 (i := 5) (v := .int .i64 hi) rfl
  have q6 := BX0.cell0 (i := 6) (v := .slice an nn cn) rfl
  have q7 := BX0.cell0 (i := 7) (v := .slice al nl cl) rfl
  go_wp2_with fail
  clear q0 q1 q2 q3 q4 q5 q6 q7
  generalize w1.alloc (.cells #[.slice am nm cm, .int .i64 q, .int .i64 bx, .int .i64 cy, .int .i64 lo, .int .i64 hi, .slice an nn cn, .slice al nl cl] 28) = U1 at *
  obtain ⟨xb, hbk⟩ : ∃ b, w1.heap.size = b := ⟨_, rfl⟩
  rw [hbk] at BX0 ⊢
  clear hbk
  refine (impl_kr am nm cm zs q bx cy lo hi an nn cn ps al nl cl qs U1 HR_2.out H64.out HSUM.out).mono ?_
  rintro e w2 ⟨ap, cp, rfl, ho, bl⟩
  have Hp0 := Lib.hid (own_hs ho)
  have HZNp := Lib.hid (own_nil ho)
  clear ho
  generalize hLp : kgL zs q bx cy lo hi ps qs = p at *
  generalize hBp : kgB zs q bx cy lo hi ps qs = fp at *
  have b_3 := below_to b_1 bl
  have HR_4 := Lib.hid (HR_2.out.below bl)
  have BX_5 := BX0.to bl
  clear b_1 HR_2 BX0
  clear bl
  have bN := below_one w2 (.cells #[.slice ap p.length cp] 26)
  have BP0 := blk_new w2 #[.slice ap p.length cp] 26 rfl
  have b_6 := below_to b_3 bN
  have HR_7 := Lib.hid (HR_4.out.below bN)
  have BX_8 := BX_5.to bN
  have Hp_9 := Lib.hid (Hp0.out.below bN)
  clear b_3 HR_4 BX_5 Hp0
  clear bN
  have q0 := BX_8.cell0 (i := 0) (v := .slice am nm cm) rfl
  have q1 := BX_8.cell0 (i := 1) (v := .int .i64 q) rfl
  have q2 := BX_8.cell0 (i := 2) (v := .int .i64 bx) rfl
  have q3 := BX_8.cell0 (i := 3) (v := .int .i64 cy) rfl
  have q4 := BX_8.cell0 (i := 4) (v := .int .i64 lo) rfl
  have q5 := BX_8.cell0 (i := 5) (v := .int .i64 hi) rfl
  have q6 := BX_8.cell0 (i := 6) (v := .slice an nn cn) rfl
  have q7 := BX_8.cell0 (i := 7) (v := .slice al nl cl) rfl
  go_wp2_with fail
  clear q0 q1 q2 q3 q4 q5 q6 q7
  generalize w2.alloc (.cells #[.slice ap p.length cp] 26) = U2 at *
  obtain ⟨bbp, hbk⟩ : ∃ b, w2.heap.size = b := ⟨_, rfl⟩
  rw [hbk] at BP0 ⊢
  clear hbk
  refine (impl_room am nm cm zs q bx cy lo hi an nn cn ps al nl cl qs U2 true HRM.out HR_7.out H64.out HSUM.out).mono ?_
  rintro e w3 ⟨rfl, bl⟩
  have b_10 := below_to b_6 bl
  have HR_11 := Lib.hid (HR_7.out.below bl)
  have BX_12 := BX_8.to bl
  have Hp_13 := Lib.hid (Hp_9.out.below bl)
  have BP_14 := BP0.to bl
  clear b_6 HR_7 BX_8 Hp_9 BP0
  clear bl
  cases fp with
  | false =>
    have HN := Lib.hid (kg_no hBp).2.2.1
    have q0 := BX_12.cell0 (i := 0) (v := .slice am nm cm) rfl
    have q1 := BX_12.cell0 (i := 1) (v := .int .i64 q) rfl
    have q2 := BX_12.cell0 (i := 2) (v := .int .i64 bx) rfl
    have q3 := BX_12.cell0 (i := 3) (v := .int .i64 cy) rfl
    have q4 := BX_12.cell0 (i := 4) (v := .int .i64 lo) rfl
    have q5 := BX_12.cell0 (i := 5) (v := .int .i64 hi) rfl
    have q6 := BX_12.cell0 (i := 6) (v := .slice an nn cn) rfl
    have q7 := BX_12.cell0 (i := 7) (v := .slice al nl cl) rfl
    go_wp2_with fail
    clear q0 q1 q2 q3 q4 q5 q6 q7
    refine (impl_ro am nm cm zs q bx cy lo hi an nn cn ps al nl cl qs w3 HR_11.out H64.out HSUM.out).mono ?_
    rw [HN.out]
    rintro e w4 ⟨rfl, bl⟩
    have b_15 := below_to b_10 bl
    have HR_16 := Lib.hid (HR_11.out.below bl)
    have BX_17 := BX_12.to bl
    have Hp_18 := Lib.hid (Hp_13.out.below bl)
    have BP_19 := BP_14.to bl
    clear b_10 HR_11 BX_12 Hp_13 BP_14
    go_wp2
    go_ret
    exact ⟨rfl, b_15⟩
  | true =>
    obtain ⟨ik, iw⟩ := kg_ik hBp
    have hkn := (kg_facts hBp).2.2.2.2.2.1
    rw [hLp] at ik iw
    have HIK := Lib.hid ik
    have HIW := Lib.hid iw
    have HKN := Lib.hid hkn
    clear ik iw hkn
    have h40p := kgL_len (zs := zs) (q := q) (bx := bx) (cy := cy) (lo := lo) (hi := hi) (ps := ps) (qs := qs)
    rw [hLp] at h40p
    have H40 := Lib.hid h40p
    clear h40p
    skip
    have q0 := BX_12.cell0 (i := 0) (v := .slice am nm cm) rfl
    have q1 := BX_12.cell0 (i := 1) (v := .int .i64 q) rfl
    have q2 := BX_12.cell0 (i := 2) (v := .int .i64 bx) rfl
    have q3 := BX_12.cell0 (i := 3) (v := .int .i64 cy) rfl
    have q4 := BX_12.cell0 (i := 4) (v := .int .i64 lo) rfl
    have q5 := BX_12.cell0 (i := 5) (v := .int .i64 hi) rfl
    have q6 := BX_12.cell0 (i := 6) (v := .slice an nn cn) rfl
    have q7 := BX_12.cell0 (i := 7) (v := .slice al nl cl) rfl
    have q8 := BP_14.cell0 (i := 0) (v := .slice ap p.length cp) rfl
    go_wp2_with fail
    clear q0 q1 q2 q3 q4 q5 q6 q7 q8
    have HI1 := Lib.hid (impl_ik am nm cm zs q bx cy lo hi an nn cn ps al nl cl qs ap p.length cp p w3 HR_11.out H64.out HSUM.out rfl (by have := H40.out.1; omega) H40.out.2 HZNp.out Hp_13.out)
    rw [HIK.out] at HI1
    refine HI1.out.mono ?_
    rintro e w4 ⟨rfl, bl⟩
    clear HI1
    have b_115 := below_to b_10 bl
    have HR_116 := Lib.hid (HR_11.out.below bl)
    have BX_117 := BX_12.to bl
    have Hp_118 := Lib.hid (Hp_13.out.below bl)
    have BP_119 := BP_14.to bl
    clear b_10 HR_11 BX_12 Hp_13 BP_14
    clear bl
    have q0 := BP_119.cell0 (i := 0) (v := .slice ap p.length cp) rfl
    have q1 := BX_117.cell0 (i := 7) (v := .slice al nl cl) rfl
    go_wp2_with fail
    clear q0 q1
    have HI2 := Lib.hid (impl_wi ap al p.length nl cp cl p qs w4 rfl HLL.out (by have := H40.out.1; omega) HNL.out.2 H40.out.2 H64.out.qs Hp_118.out HR_116.out.hl)
    rw [HIW.out] at HI2
    refine HI2.out.mono ?_
    rintro e w5 ⟨rfl, bl⟩
    clear HI2
    have b_120 := below_to b_115 bl
    have HR_121 := Lib.hid (HR_116.out.below bl)
    have BX_122 := BX_117.to bl
    have Hp_123 := Lib.hid (Hp_118.out.below bl)
    have BP_124 := BP_119.to bl
    clear b_115 HR_116 BX_117 Hp_118 BP_119
    clear bl
    have q0 := BX_122.cell0 (i := 0) (v := .slice am nm cm) rfl
    have q1 := BX_122.cell0 (i := 1) (v := .int .i64 q) rfl
    have q2 := BX_122.cell0 (i := 2) (v := .int .i64 bx) rfl
    have q3 := BX_122.cell0 (i := 3) (v := .int .i64 cy) rfl
    have q4 := BX_122.cell0 (i := 4) (v := .int .i64 lo) rfl
    have q5 := BX_122.cell0 (i := 5) (v := .int .i64 hi) rfl
    have q6 := BX_122.cell0 (i := 6) (v := .slice an nn cn) rfl
    have q7 := BX_122.cell0 (i := 7) (v := .slice al nl cl) rfl
    go_wp2_with fail
    clear q0 q1 q2 q3 q4 q5 q6 q7
    refine (impl_ro am nm cm zs q bx cy lo hi an nn cn ps al nl cl qs w5 HR_121.out H64.out HSUM.out).mono ?_
    rw [HKN.out]
    rintro e w6 ⟨rfl, bl⟩
    generalize rrN zs q bx cy lo hi ps qs 12 = NR at *
    have hnr : ¬ ((NR : Int) < 0) := by omega
    have b_125 := below_to b_120 bl
    have HR_126 := Lib.hid (HR_121.out.below bl)
    have BX_127 := BX_122.to bl
    have Hp_128 := Lib.hid (Hp_123.out.below bl)
    have BP_129 := BP_124.to bl
    clear b_120 HR_121 BX_122 Hp_123 BP_124
    clear bl
    have q0 := BX_127.cell0 (i := 0) (v := .slice am nm cm) rfl
    have q1 := BX_127.cell0 (i := 1) (v := .int .i64 q) rfl
    have q2 := BX_127.cell0 (i := 2) (v := .int .i64 bx) rfl
    have q3 := BX_127.cell0 (i := 3) (v := .int .i64 cy) rfl
    have q4 := BX_127.cell0 (i := 4) (v := .int .i64 lo) rfl
    have q5 := BX_127.cell0 (i := 5) (v := .int .i64 hi) rfl
    have q6 := BX_127.cell0 (i := 6) (v := .slice an nn cn) rfl
    have q7 := BX_127.cell0 (i := 7) (v := .slice al nl cl) rfl
    have hxq0 := BX_127.lt
    have hpq0 := BP_129.lt
    have HR6 := HR_126
    have Hp6 := Hp_128
    have hqw0 := (b_125).size
    have bN := below_one w6 (.cells #[.slice am nm cm, .int .i64 q, .int .i64 bx, .int .i64 cy, .int .i64 lo, .int .i64 hi, .slice an nn cn, .slice al nl cl] 28)
    have BQ0 := blk_new w6 #[.slice am nm cm, .int .i64 q, .int .i64 bx, .int .i64 cy, .int .i64 lo, .int .i64 hi, .slice an nn cn, .slice al nl cl] 28 rfl
    have bq0 := below_one w6 (.cells #[.slice am nm cm, .int .i64 q, .int .i64 bx, .int .i64 cy, .int .i64 lo, .int .i64 hi, .slice an nn cn, .slice al nl cl] 28)
    have b_130 := below_to b_125 bN
    have HR_131 := Lib.hid (HR_126.out.below bN)
    have BX_132 := BX_127.to bN
    have Hp_133 := Lib.hid (Hp_128.out.below bN)
    have BP_134 := BP_129.to bN
    clear b_125 HR_126 BX_127 Hp_128 BP_129
    clear bN
    go_wp2_with fail
    clear q0 q1 q2 q3 q4 q5 q6 q7
    generalize w6.alloc (.cells #[.slice am nm cm, .int .i64 q, .int .i64 bx, .int .i64 cy, .int .i64 lo, .int .i64 hi, .slice an nn cn, .slice al nl cl] 28) = U6 at *
    obtain ⟨qb, hbk⟩ : ∃ b, w6.heap.size = b := ⟨_, rfl⟩
    rw [hbk] at BQ0 hqw0 ⊢
    have zU6 := BQ0.lt
    have hxq : xb < qb := by have := hxq0; omega
    have hpq : bbp < qb := by have := hpq0; omega
    have HQ9 := Lib.hid (show rokB qs = true ∧ qs ≠ [] ∧ qs.length ≤ 9 from ⟨HF.out.2.2.2.2.2.2.2.2.2.1, HF.out.2.2.2.2.2.2.2.2.2.2.1, HF.out.2.2.2.2.2.2.2.2.2.2.2⟩)
    have HCU := Lib.hid (fun (V : World) (C : Int) (hC : 8 ≤ C ∧ C ≤ 27) (k : HsAt V al qs) => impl_cut1 al nl cl qs C V HLL.out HQ9.out.1 HQ9.out.2.2 hC k)
    unfold AnsR at HCU
    have HMN := Lib.hid (fun V (q : Below w.heap.size w V) => show Calls Tryz.prog 18 #[.slice a len cap, .int .i64 60] V (Num 0 65535 V) from make_num V a len cap 60 (by omega) hl (HB.out.below q))
    unfold Num at HMN
    go_cut [46, 7, 8] from 47 to 56 (fun s1 s2 s3 wx => (∃ C : Int, (8 ≤ C ∧ C ≤ 27) ∧ BoxR U6 (cutA qs ⟨1, 0, C⟩) (cutA qs ⟨1, 0, C⟩).length s2 wx) ∧ s3 = .bool true)
    case first =>
      go_region_held3 (fun w' => w'.cell? ⟨xb, 7, none⟩ = some (.slice al nl cl))
        ((refine one7 BX_132 ?_; repeat (first | exact Below.refl _ _ | refine Below.setCell ?_ (by first | (simp; done) | (simp; omega)) _ | refine below_bx2 ?_ _ | refine below_drw ?_ | refine below_to ?_ (by assumption))))
        (first | (go_at_call 18; (with_reducible refine (HMN.out _ ?_).mono ?_); (focus (repeat (first | exact b_130 | refine below_bx2 ?_ _ | refine below_drw ?_ | refine below_to ?_ (by assumption)))); rintro e wM ⟨x, hx, rfl, blM⟩; have rx := rem_in20 hx; have wrx := wrap20 rx; have hsM := blM.size; (try simp at hsM)) | (go_at_call 17; (with_reducible refine (HCU.out _ (8 + x.tmod 20) ?_ ?_).mono ?_); (focus (exact rx)); (focus ((refine HR_131.out.hl.below ?_); repeat (first | exact Below.refl _ _ | refine Below.setCell ?_ (by first | (simp; done) | (simp; omega)) _ | refine below_bx2 ?_ _ | refine below_drw ?_ | refine below_to ?_ (by assumption)))); rintro e wC ⟨aC, cC, rfl, hoC, blC⟩; obtain ⟨hcC, hfC⟩ := bcl3 blC; obtain ⟨hcD, hfD⟩ := bcl3 (blx_next (Y := wC) blM (by refine below_to ?_ blC; repeat (first | exact Below.refl _ _ | refine below_bx2 ?_ _ | refine below_drw ?_))); have hsC := blC.size; (try simp at hsC)))
      all_goals
        go_wp2_with fail
        go_meet
        refine ⟨⟨_, rx, ?_⟩, rfl⟩
        first
          | exact BoxR.last hoC (by first | exact Nat.le_refl _ | omega | (simp; omega) | (simp; done)) (by repeat (first | exact Below.refl _ _ | refine below_bx2 ?_ _ | refine below_drw ?_ | refine below_to ?_ (by assumption)))
          | exact BoxR.early (U := wM) (x := .slice none 0 0) blC (by first | exact Nat.le_refl _ | omega | (simp; omega) | (simp; done)) hoC (by first | exact Nat.le_refl _ | omega | (simp; omega) | (simp; done)) (by repeat (first | exact Below.refl _ _ | refine below_bx2 ?_ _ | refine below_drw ?_ | refine below_to ?_ (by assumption)))
          | exact BoxR.early (U := U6) (x := .slice none 0 0) (by repeat (first | exact Below.refl _ _ | refine below_bx2 ?_ _ | refine below_drw ?_ | refine below_to ?_ (by assumption))) (by first | exact Nat.le_refl _ | omega | (simp; omega) | (simp; done)) hoC (by first | exact Nat.le_refl _ | omega | (simp; omega) | (simp; done)) (by repeat (first | exact Below.refl _ _ | refine below_bx2 ?_ _ | refine below_drw ?_ | refine below_to ?_ (by assumption)))
    case rest =>
      obtain ⟨⟨C, hC, g7, aq, cq, rfl, hg7, hh7, ho7, hb7⟩, rfl⟩ := hcut
      rename World => wc
      have b_135 := below_to b_130 hb7
      have HR_136 := Lib.hid (HR_131.out.below hb7)
      have BX_137 := BX_132.to hb7
      have Hp_138 := Lib.hid (Hp_133.out.below hb7)
      have BP_139 := BP_134.to hb7
      have BQ_140 := BQ0.to hb7
      have bq_141 := below_to bq0 hb7
      clear b_130 HR_131 BX_132 Hp_133 BP_134 BQ0 bq0
      have B70 : Blk wc g7 #[.slice aq (cutA qs ⟨1, 0, C⟩).length cq] 26 := hh7
      have HK0 := Lib.hid ho7
      have HZK := Lib.hid (own_nil ho7)
      have HCB := Lib.hid (cut_one HQ9.out.1 HQ9.out.2.2 hC)
      clear hh7 ho7 hb7 HCU HMN
      obtain ⟨hsub, hrk⟩ := sub_cut HCB.out.2 HQ9.out.2.1
      have HSUB := Lib.hid hsub
      have HRK := Lib.hid hrk
      clear hsub hrk
      generalize cutA qs ⟨1, 0, C⟩ = K at *
      have hnq : g7 ≠ qb := by have := BQ_140.lt; omega
      have q0 := B70.cell0 (i := 0) (v := .slice aq K.length cq) rfl
      go_wp2_with fail
      clear q0
      refine (impl_void aq K.length cq wc).mono ?_
      rintro e w7 ⟨rfl, bl⟩
      have b_142 := below_to b_135 bl
      have HR_143 := Lib.hid (HR_136.out.below bl)
      have BX_144 := BX_137.to bl
      have Hp_145 := Lib.hid (Hp_138.out.below bl)
      have BP_146 := BP_139.to bl
      have BQ_147 := BQ_140.to bl
      have bq_148 := below_to bq_141 bl
      have B7_149 := B70.to bl
      have HK_150 := Lib.hid (own_below HK0.out bl)
      clear b_135 HR_136 BX_137 Hp_138 BP_139 BQ_140 bq_141 B70 HK0
      clear bl
      by_cases hK : K = []
      · have hz : ((K.length : Int) == 0) = true := by rw [hK]; rfl
        go_wp2
        go_ret
        exact ⟨rfl, b_142⟩
      · have hz : ((K.length : Int) == 0) = false := eq_b (by have := List.length_pos_iff.2 hK; omega)
        have HKN := Lib.hid hK
        clear hK
        have fq := BQ_147.free 7
        have gq := BQ_147.c8_7
        have g0 := B7_149.cell0 (i := 0) rfl
        have Z60 := BQ_147.s8_7 (.slice aq K.length cq)
        have lq := BQ_147.lt
        have bs := (b_142).setCell (p := ⟨qb, 7, none⟩) hqw0 (.slice aq K.length cq)
        have bq9 := (bq_148).setCell (p := ⟨qb, 7, none⟩) (by simp only; omega) (.slice aq K.length cq)
        have BX_151 := blk_far BX_144 (p := ⟨qb, 7, none⟩) (.slice aq K.length cq) (by simp only; omega)
        have BP_152 := blk_far BP_146 (p := ⟨qb, 7, none⟩) (.slice aq K.length cq) (by simp only; omega)
        have B7_153 := blk_far B7_149 (p := ⟨qb, 7, none⟩) (.slice aq K.length cq) (by exact (fun e => hnq e.symm))
        have HR9 := Lib.hid (HR6.out.below bq9)
        have Hp9 := Lib.hid (Hp6.out.below bq9)
        have HK9 := Lib.hid (own_far (p := ⟨qb, 7, none⟩) HK_150.out (by simp only; omega) (.slice aq K.length cq))
        clear b_142 HR_143 BX_144 Hp_145 BP_146 BQ_147 bq_148 B7_149 HK_150
        have z0 := Z60.c8_0
        have z1 := Z60.c8_1
        have z2 := Z60.c8_2
        have z3 := Z60.c8_3
        have z4 := Z60.c8_4
        have z5 := Z60.c8_5
        have z6 := Z60.c8_6
        have z7 := Z60.c8_7
        go_wp2_with fail
        clear fq gq g0 z0 z1 z2 z3 z4 z5 z6 z7
        generalize w7.setCell ⟨qb, 7, none⟩ (.slice aq K.length cq) = U7 at *
        have HKH := Lib.hid (own_hs HK9.out)
        have HS0 := Lib.hid (show RAt U7 am nm zs an nn ps aq K.length K from ⟨HR9.out.lm, HR9.out.ln, rfl, HR9.out.hm, HR9.out.hn, HKH.out⟩)
        have hK40 := rok_len HRK.out
        have H64K := Lib.hid (show R64 q bx cy lo hi ps K from ⟨H64.out.q, H64.out.bx, H64.out.cy, H64.out.lo, H64.out.hi, H64.out.ps, fun x hx => ok_in64 (rok_all HRK.out x hx)⟩)
        have HSUMK := Lib.hid (show nm + nn + K.length ≤ 1048576 by have := HNL.out.1; omega)
        refine (impl_kr am nm cm zs q bx cy lo hi an nn cn ps aq K.length cq K U7 HS0.out H64K.out HSUMK.out).mono ?_
        rintro e w8 ⟨ar, cr, rfl, ho, bl⟩
        have Hr0 := Lib.hid (own_hs ho)
        have HZNr := Lib.hid (own_nil ho)
        clear ho
        generalize hLr : kgL zs q bx cy lo hi ps K = r at *
        generalize hBr : kgB zs q bx cy lo hi ps K = fr at *
        have b_154 := below_to bs bl
        have BX_155 := BX_151.to bl
        have BP_156 := BP_152.to bl
        have B7_157 := B7_153.to bl
        have BQ_158 := Z60.to bl
        have HR_159 := Lib.hid (HR9.out.below bl)
        have Hp_160 := Lib.hid (Hp9.out.below bl)
        have HK_161 := Lib.hid (own_below HK9.out bl)
        have HS_162 := Lib.hid (HS0.out.below bl)
        clear bs BX_151 BP_152 B7_153 Z60 HR9 Hp9 HK9 HS0
        clear bl
        cases fr with
        | false =>
          go_wp2
          go_ret
          exact ⟨rfl, below_bx2 b_154 _⟩
        | true =>
          have bN := below_one w8 (.cells #[.slice ar r.length cr] 26)
          have BR0 := blk_new w8 #[.slice ar r.length cr] 26 rfl
          have b_163 := below_to b_154 bN
          have BX_164 := BX_155.to bN
          have BP_165 := BP_156.to bN
          have B7_166 := B7_157.to bN
          have BQ_167 := BQ_158.to bN
          have HR_168 := Lib.hid (HR_159.out.below bN)
          have Hp_169 := Lib.hid (Hp_160.out.below bN)
          have HK_170 := Lib.hid (own_below HK_161.out bN)
          have HS_171 := Lib.hid (HS_162.out.below bN)
          have Hr_172 := Lib.hid (Hr0.out.below bN)
          clear b_154 BX_155 BP_156 B7_157 BQ_158 HR_159 Hp_160 HK_161 HS_162 Hr0
          clear bN
          have q0 := BR0.cell0 (i := 0) (v := .slice ar r.length cr) rfl
          have q1 := BP_165.cell0 (i := 0) (v := .slice ap p.length cp) rfl
          go_wp2_with fail
          clear q0 q1
          generalize w8.alloc (.cells #[.slice ar r.length cr] 26) = U8 at *
          obtain ⟨bbr, hbk⟩ : ∃ b, w8.heap.size = b := ⟨_, rfl⟩
          rw [hbk] at BR0 ⊢
          clear hbk
          obtain ⟨iw2, ik2⟩ := kg_narrow hBp hBr HSUB.out
          rw [hLp, hLr] at iw2
          rw [hLr] at ik2
          have HIW2 := Lib.hid iw2
          have HIK2 := Lib.hid ik2
          have h40r := kgL_len (zs := zs) (q := q) (bx := bx) (cy := cy) (lo := lo) (hi := hi) (ps := ps) (qs := K)
          rw [hLr] at h40r
          have H40r := Lib.hid h40r
          clear h40r iw2 ik2 hLp hLr hBp hBr
          have HI2 := Lib.hid (impl_wi ar ap r.length p.length cr cp r p U8 rfl rfl (by have := H40r.out.1; omega) (by have := H40.out.1; omega) H40r.out.2 H40.out.2 Hr_172.out Hp_169.out)
          rw [HIW2.out] at HI2
          refine HI2.out.mono ?_
          rintro e w9 ⟨rfl, bl⟩
          clear HI2
          have b_173 := below_to b_163 bl
          have BX_174 := BX_164.to bl
          have BP_175 := BP_165.to bl
          have B7_176 := B7_166.to bl
          have BQ_177 := BQ_167.to bl
          have HR_178 := Lib.hid (HR_168.out.below bl)
          have Hp_179 := Lib.hid (Hp_169.out.below bl)
          have HK_180 := Lib.hid (own_below HK_170.out bl)
          have HS_181 := Lib.hid (HS_171.out.below bl)
          have Hr_182 := Lib.hid (Hr_172.out.below bl)
          have BR_183 := BR0.to bl
          clear b_163 BX_164 BP_165 B7_166 BQ_167 HR_168 Hp_169 HK_170 HS_171 Hr_172 BR0
          clear bl
          have q0 := BX_174.cell0 (i := 0) (v := .slice am nm cm) rfl
          have q1 := BX_174.cell0 (i := 1) (v := .int .i64 q) rfl
          have q2 := BX_174.cell0 (i := 2) (v := .int .i64 bx) rfl
          have q3 := BX_174.cell0 (i := 3) (v := .int .i64 cy) rfl
          have q4 := BX_174.cell0 (i := 4) (v := .int .i64 lo) rfl
          have q5 := BX_174.cell0 (i := 5) (v := .int .i64 hi) rfl
          have q6 := BX_174.cell0 (i := 6) (v := .slice an nn cn) rfl
          have q7 := BX_174.cell0 (i := 7) (v := .slice al nl cl) rfl
          have q8 := BR_183.cell0 (i := 0) (v := .slice ar r.length cr) rfl
          go_wp2_with fail
          clear q0 q1 q2 q3 q4 q5 q6 q7 q8
          have HI1 := Lib.hid (impl_ik am nm cm zs q bx cy lo hi an nn cn ps al nl cl qs ar r.length cr r w9 HR_178.out H64.out HSUM.out rfl (by have := H40r.out.1; omega) H40r.out.2 HZNr.out Hr_182.out)
          rw [HIK2.out] at HI1
          refine HI1.out.mono ?_
          rintro e w10 ⟨rfl, bl⟩
          clear HI1
          have b_184 := below_to b_173 bl
          have BX_185 := BX_174.to bl
          have BP_186 := BP_175.to bl
          have B7_187 := B7_176.to bl
          have BQ_188 := BQ_177.to bl
          have HR_189 := Lib.hid (HR_178.out.below bl)
          have Hp_190 := Lib.hid (Hp_179.out.below bl)
          have HK_191 := Lib.hid (own_below HK_180.out bl)
          have HS_192 := Lib.hid (HS_181.out.below bl)
          have Hr_193 := Lib.hid (Hr_182.out.below bl)
          have BR_194 := BR_183.to bl
          clear b_173 BX_174 BP_175 B7_176 BQ_177 HR_178 Hp_179 HK_180 HS_181 Hr_182 BR_183
          clear bl
          go_wp2
          go_ret
          exact ⟨rfl, b_184⟩
end Go.Proofs.YtdjjncofahnaaaaGreat
