/- IsKept of the program and of the model, over the translation. -/
import Derived.Test.YtceeninhjlonbaaGreatVf
import Derived.Test.YtceeninhjlonbaaGreatWk
namespace Go.Proofs.YtceeninhjlonbaaGreat
open Go.RowKit
open Geo (H3)

set_option maxRecDepth 100000 in
set_option maxHeartbeats 1600000 in
theorem impl_ik (am : Option Addr) (nm cm : Nat) (zs : List Int) (q bx cy lo hi : Int) (an : Option Addr) (nn cn : Nat) (ps : List H3) (al : Option Addr) (nl cl : Nat) (qs : List H3) (a : Option Addr) (n ca : Nat) (rs : List H3) (w : World) (hA : RAt w am nm zs an nn ps al nl qs) (h64 : R64 q bx cy lo hi ps qs) (hle : nm + nn + nl ≤ 1048576) (hl : rs.length = n) (hn : n ≤ 1048576) (hr64 : ∀ h ∈ rs, In64 h) (hz : a = none → n = 0 ∧ ca = 0) (hG : HsAt w a rs) :
    Calls Tryz.prog 23 #[.agg #[.slice am nm cm, .int .i64 q, .int .i64 bx, .int .i64 cy, .int .i64 lo, .int .i64 hi, .slice an nn cn, .slice al nl cl], .agg #[.slice a n ca]] w fun e w' => e = .returned (.bool (ikB zs q bx cy lo hi ps qs rs)) ∧ Below w.heap.size w w' := by
  have bV := below_bx2 (below_one w (.cells #[.slice am nm cm, .int .i64 q, .int .i64 bx, .int .i64 cy, .int .i64 lo, .int .i64 hi, .slice an nn cn, .slice al nl cl] 36)) (.cells #[.slice a n ca] 32)
  have K0 := (blk_new w #[.slice am nm cm, .int .i64 q, .int .i64 bx, .int .i64 cy, .int .i64 lo, .int .i64 hi, .slice an nn cn, .slice al nl cl] 36 (b := w.heap.size) (by simp)).to (below_one _ (.cells #[.slice a n ca] 32))
  have K1 := blk_new (w.alloc (.cells #[.slice am nm cm, .int .i64 q, .int .i64 bx, .int .i64 cy, .int .i64 lo, .int .i64 hi, .slice an nn cn, .slice al nl cl] 36)) #[.slice a n ca] 32 (b := w.heap.size + 1) (by simp)
  have HE := Lib.hid (fun V (h : Below w.heap.size w V) => impl_pr am nm cm zs q bx cy lo hi an nn cn ps al nl cl qs a n ca rs V (hA.below h) h64 hle hl hn hr64 hz (hG.below h))
  have H1 := Lib.hid (fun V (h : Below w.heap.size w V) => impl_wi a al n nl ca cl rs qs V hl hA.ll hn (by omega) hr64 h64.qs (hG.below h) (hA.hl.below h))
  have H2 := Lib.hid (fun V a1 c1 (h : Below w.heap.size w V) (k : HsAt V a1 (prL zs q bx cy lo hi ps qs rs)) => impl_wi a a1 n (prL zs q bx cy lo hi ps qs rs).length ca c1 rs (prL zs q bx cy lo hi ps qs rs) V hl rfl hn (Nat.le_trans (prL_len _ _ _ _ _ _ _ _ _) (by omega)) hr64 (prL_64 _ _ _ _ _ _ _ _ _) (hG.below h) k)
  clear hA h64 hl hn hr64 hz hG
  have c0_0 := K0.c8_0
  have c0_1 := K0.c8_1
  have c0_2 := K0.c8_2
  have c0_3 := K0.c8_3
  have c0_4 := K0.c8_4
  have c0_5 := K0.c8_5
  have c0_6 := K0.c8_6
  have c0_7 := K0.c8_7
  have c1_0 := K1.cell0 (i := 0) (v := .slice a n ca) rfl
  go_enter Tryz.func23, Tryz.ntmps23
  go_wp2_with fail
  clear c0_0 c0_1 c0_2 c0_3 c0_4 c0_5 c0_6 c0_7 c1_0
  generalize ((w.alloc (.cells #[.slice am nm cm, .int .i64 q, .int .i64 bx, .int .i64 cy, .int .i64 lo, .int .i64 hi, .slice an nn cn, .slice al nl cl] 36)).alloc (.cells #[.slice a n ca] 32)) = V at *
  refine (HE.out _ bV).mono ?_
  rintro e w1 ⟨ag, cg, rfl, ho, bl1⟩
  have b1 := below_to bV bl1
  have L0 := K0.to bl1
  have L1 := K1.to bl1
  have bY := below_one w1 (.cells #[.slice ag (prL zs q bx cy lo hi ps qs rs).length cg] 32)
  have b2 := below_to b1 bY
  have N3 := blk_new w1 #[.slice ag (prL zs q bx cy lo hi ps qs rs).length cg] 32 rfl
  have M0 := L0.to bY
  have M1 := L1.to bY
  have HO := Lib.hid (own_below ho bY)
  clear ho bl1 b1 L0 L1 bY bV K0 K1 HE
  cases hb : prB zs q bx cy lo hi ps qs rs with
  | false =>
    have HN := Lib.hid (show ikB zs q bx cy lo hi ps qs rs = false by unfold ikB; rw [hb]; rfl)
    clear hb H1 H2 HO M0 M1 N3
    go_wp2
    go_ret
    exact ⟨ret_bool HN.out.symm, b2⟩
  | true =>
    have k7 := M0.c8_7
    have k1 := M1.cell0 (i := 0) (v := .slice a n ca) rfl
    have HK := Lib.hid (show ikB zs q bx cy lo hi ps qs rs = (wiB rs qs && wiB rs (prL zs q bx cy lo hi ps qs rs)) by unfold ikB; rw [hb, Bool.true_and])
    clear hb
    go_wp2_with fail
    clear k7 k1
    generalize w1.alloc (.cells #[.slice ag (prL zs q bx cy lo hi ps qs rs).length cg] 32) = U at *
    refine (H1.out U b2).mono ?_
    rintro e w3 ⟨rfl, bl3⟩
    have b3 := below_to b2 bl3
    have Q1 := M1.to bl3
    have Q3 := N3.to bl3
    have HO3 := Lib.hid (own_below HO.out bl3)
    clear bl3 b2 M0 M1 N3 HO H1
    cases hw : wiB rs qs with
    | false =>
      have HN := Lib.hid (show ikB zs q bx cy lo hi ps qs rs = false by rw [HK.out, hw]; rfl)
      clear hw H2 HO3 Q1 Q3 HK
      go_wp2
      go_ret
      exact ⟨ret_bool HN.out.symm, b3⟩
    | true =>
      have HN := Lib.hid (show ikB zs q bx cy lo hi ps qs rs = wiB rs (prL zs q bx cy lo hi ps qs rs) by rw [HK.out, hw, Bool.true_and])
      clear hw HK
      have k1 := Q1.cell0 (i := 0) (v := .slice a n ca) rfl
      have k3 := Q3.cell0 (i := 0) rfl
      go_wp2_with fail
      clear k1 k3
      refine (H2.out w3 _ _ b3 (own_hs HO3.out)).mono ?_
      rintro e w4 ⟨rfl, bl4⟩
      have b4 := below_to b3 bl4
      clear bl4 b3 Q1 Q3 HO3 H2
      go_wp2
      go_ret
      exact ⟨ret_bool HN.out.symm, b4⟩
theorem ik_f1 {zs : List Int} {q bx cy lo hi : Int} {ps qs rs : List H3} (h : rmB zs q bx cy lo hi ps qs = false) : ikB zs q bx cy lo hi ps qs rs = false := by
  unfold ikB prB; rw [h]; simp
theorem ik_f2 {zs : List Int} {q bx cy lo hi : Int} {ps qs rs : List H3} (h : wiB rs qs = false) : ikB zs q bx cy lo hi ps qs rs = false := by
  unfold ikB; rw [h]; simp
/-- a void region is kept in a valid room -/
theorem ik_t {zs : List Int} {q bx cy lo hi : Int} {ps qs rs : List H3} (h : rmB zs q bx cy lo hi ps qs = true) (k : wiB rs qs = true) (n : rs = []) : ikB zs q bx cy lo hi ps qs rs = true := by
  subst n
  have h' := h
  unfold rmB at h'
  simp only [Bool.and_eq_true] at h'
  obtain ⟨⟨⟨hm, hlo, hhi⟩, hp⟩, _⟩ := h'
  unfold solB at hp
  simp only [Bool.and_eq_true, Bool.not_eq_true', decide_eq_false_iff_not] at hp
  have r0 : rokB [] = true := rfl
  obtain ⟨e1, e2⟩ := ero_yes (ps := []) r0 hp.2 hp.1
  rw [(mv_nil rfl).1] at e1
  rw [(mv_nil rfl).2] at e2
  have hm2 := hm
  unfold rmM at hm2
  simp only [Bool.and_eq_true] at hm2
  have gc : gwC [] bx cy lo hi = true := by
    unfold gwC
    rw [hm2.2.1, hm2.2.2, hlo, hhi]; rfl
  obtain ⟨g1, g2⟩ := gw_same gc (.inl rfl)
  have pc : pbkC [] zs q = true := by
    unfold pbkC
    rw [hm2.1.1, hm2.1.2]; rfl
  obtain ⟨p1, p2⟩ := pbk_yes pc
  rw [(mv_nil rfl).1] at p1
  rw [(mv_nil rfl).2] at p2
  have eG : prG bx cy lo hi ps [] = [] := by unfold prG; rw [e1, g1]
  have eB : prB zs q bx cy lo hi ps qs [] = true := by unfold prB; rw [h, e2, e1, g2, eG, p2]; rfl
  have eL : prL zs q bx cy lo hi ps qs [] = [] := by unfold prL; rw [if_pos eB, eG, p1]
  unfold ikB
  rw [eB, k, eL]
  rfl
set_option maxRecDepth 100000 in
set_option maxHeartbeats 1600000 in
theorem spec_ik (am : Option Addr) (nm cm : Nat) (zs : List Int) (q bx cy lo hi : Int) (an : Option Addr) (nn cn : Nat) (ps : List H3) (al : Option Addr) (nl cl : Nat) (qs : List H3) (a : Option Addr) (n ca : Nat) (rs : List H3) (w : World) (hA : RAt w am nm zs an nn ps al nl qs) (h64 : R64 q bx cy lo hi ps qs) (hle : nm + nn + nl ≤ 1048576) (hl : rs.length = n) (hn : n ≤ 1048576) (hr64 : ∀ h ∈ rs, In64 h) (hz : a = none → n = 0 ∧ ca = 0) (hG : HsAt w a rs) (hnl : RNil am nm cm an nn cn al nl cl) :
    Calls Tryz.prog 22 #[.agg #[.slice am nm cm, .int .i64 q, .int .i64 bx, .int .i64 cy, .int .i64 lo, .int .i64 hi, .slice an nn cn, .slice al nl cl], .agg #[.slice a n ca]] w fun e w' => e = .returned (.bool (ikB zs q bx cy lo hi ps qs rs)) ∧ Below w.heap.size w w' := by
  have bV := below_bx2 (below_one w (.cells #[.slice am nm cm, .int .i64 q, .int .i64 bx, .int .i64 cy, .int .i64 lo, .int .i64 hi, .slice an nn cn, .slice al nl cl] 36)) (.cells #[.slice a n ca] 32)
  have K0 := (blk_new w #[.slice am nm cm, .int .i64 q, .int .i64 bx, .int .i64 cy, .int .i64 lo, .int .i64 hi, .slice an nn cn, .slice al nl cl] 36 (b := w.heap.size) (by simp)).to (below_one _ (.cells #[.slice a n ca] 32))
  have K1 := blk_new (w.alloc (.cells #[.slice am nm cm, .int .i64 q, .int .i64 bx, .int .i64 cy, .int .i64 lo, .int .i64 hi, .slice an nn cn, .slice al nl cl] 36)) #[.slice a n ca] 32 (b := w.heap.size + 1) (by simp)
  have HR := Lib.hid (fun V (h : Below w.heap.size w V) => spec_room am nm cm zs q bx cy lo hi an nn cn ps al nl cl qs V _ rfl (hA.below h) h64 hnl hle)
  have HE := Lib.hid (fun V (h : Below w.heap.size w V) => spec_pr am nm cm zs q bx cy lo hi an nn cn ps al nl cl qs a n ca rs V (hA.below h) h64 hle hl hn hr64 hz (hG.below h) hnl)
  have H1 := Lib.hid (fun V (h : Below w.heap.size w V) => spec_wi a al n nl ca cl rs qs V hl hA.ll hn (by omega) hr64 h64.qs hz hnl.l (hG.below h) (hA.hl.below h))
  have H2 := Lib.hid (fun V a1 c1 (h : Below w.heap.size w V) (k0 : a1 = none → (prL zs q bx cy lo hi ps qs rs).length = 0 ∧ c1 = 0) (k : HsAt V a1 (prL zs q bx cy lo hi ps qs rs)) => spec_wi a a1 n (prL zs q bx cy lo hi ps qs rs).length ca c1 rs (prL zs q bx cy lo hi ps qs rs) V hl rfl hn (Nat.le_trans (prL_len _ _ _ _ _ _ _ _ _) (by omega)) hr64 (prL_64 _ _ _ _ _ _ _ _ _) hz k0 (hG.below h) k)
  have HV := Lib.hid (fun V => spec_void a n ca V)
  have HL := Lib.hid hl
  clear hA h64 hl hn hr64 hz hG hnl
  have c0_0 := K0.c8_0
  have c0_1 := K0.c8_1
  have c0_2 := K0.c8_2
  have c0_3 := K0.c8_3
  have c0_4 := K0.c8_4
  have c0_5 := K0.c8_5
  have c0_6 := K0.c8_6
  have c0_7 := K0.c8_7
  have c1_0 := K1.cell0 (i := 0) (v := .slice a n ca) rfl
  go_enter Tryz.func22, Tryz.ntmps22
  go_wp2_with fail
  clear c0_0 c0_1 c0_2 c0_3 c0_4 c0_5 c0_6 c0_7 c1_0
  generalize ((w.alloc (.cells #[.slice am nm cm, .int .i64 q, .int .i64 bx, .int .i64 cy, .int .i64 lo, .int .i64 hi, .slice an nn cn, .slice al nl cl] 36)).alloc (.cells #[.slice a n ca] 32)) = V at *
  refine (HR.out _ bV).mono ?_
  rintro e w1 ⟨rfl, bl1⟩
  have b1 := below_to bV bl1
  have L0 := K0.to bl1
  have L1 := K1.to bl1
  clear bV bl1 K0 K1 HR
  cases hr : rmB zs q bx cy lo hi ps qs with
  | false =>
    have HN := Lib.hid (ik_f1 (rs := rs) hr)
    clear hr HE H1 H2 HV L0 L1
    go_wp2
    go_ret
    exact ⟨ret_bool HN.out.symm, b1⟩
  | true =>
    have HRM := Lib.hid hr
    clear hr
    have k7 := L0.c8_7
    have k1 := L1.cell0 (i := 0) (v := .slice a n ca) rfl
    go_wp2_with fail
    clear k7 k1
    refine (H1.out _ b1).mono ?_
    rintro e w2 ⟨rfl, bl2⟩
    have b2 := below_to b1 bl2
    have M0 := L0.to bl2
    have M1 := L1.to bl2
    clear b1 bl2 L0 L1 H1
    cases hw : wiB rs qs with
    | false =>
      have HN := Lib.hid (ik_f2 (zs := zs) (q := q) (bx := bx) (cy := cy) (lo := lo) (hi := hi) (ps := ps) hw)
      clear hw HE H2 HV M0 M1
      go_wp2
      go_ret
      exact ⟨ret_bool HN.out.symm, b2⟩
    | true =>
      have HW := Lib.hid hw
      clear hw
      have k1 := M1.cell0 (i := 0) (v := .slice a n ca) rfl
      go_wp2_with fail
      clear k1
      refine (HV.out _).mono ?_
      rintro e w3 ⟨rfl, bl3⟩
      have b3 := below_to b2 bl3
      have L0 := M0.to bl3
      have L1 := M1.to bl3
      clear b2 bl3 M0 M1 HV
      by_cases h0 : n = 0
      · have HN := Lib.hid (ik_t (rs := rs) HRM.out HW.out (len_nil HL.out h0))
        have hb0 : ((n : Int) == 0) = true := by subst h0; rfl
        clear h0 HE H2 L0 L1
        go_wp2
        go_ret
        exact ⟨ret_bool HN.out.symm, b3⟩
      · have hb0 : ((n : Int) == 0) = false := eq_b (by omega)
        have HK := Lib.hid (show ikB zs q bx cy lo hi ps qs rs = (prB zs q bx cy lo hi ps qs rs && wiB rs (prL zs q bx cy lo hi ps qs rs)) by unfold ikB; rw [HW.out, Bool.and_true])
        clear h0
        have c0_0 := L0.c8_0
        have c0_1 := L0.c8_1
        have c0_2 := L0.c8_2
        have c0_3 := L0.c8_3
        have c0_4 := L0.c8_4
        have c0_5 := L0.c8_5
        have c0_6 := L0.c8_6
        have c0_7 := L0.c8_7
        have c1_0 := L1.cell0 (i := 0) (v := .slice a n ca) rfl
        go_wp2_with fail
        clear hb0 c0_0 c0_1 c0_2 c0_3 c0_4 c0_5 c0_6 c0_7 c1_0
        refine (HE.out _ b3).mono ?_
        rintro e w4 ⟨ag, cg, rfl, ho, bl4⟩
        have b4 := below_to b3 bl4
        have N1 := L1.to bl4
        have bY := below_one w4 (.cells #[.slice ag (prL zs q bx cy lo hi ps qs rs).length cg] 32)
        have b5 := below_to b4 bY
        have N3 := blk_new w4 #[.slice ag (prL zs q bx cy lo hi ps qs rs).length cg] 32 rfl
        have M1 := N1.to bY
        have HO := Lib.hid (own_below ho bY)
        clear ho bl4 b4 b3 L0 L1 N1 bY HE
        cases hb : prB zs q bx cy lo hi ps qs rs with
        | false =>
          have HN := Lib.hid (show ikB zs q bx cy lo hi ps qs rs = false by rw [HK.out, hb]; rfl)
          clear hb H2 HO M1 N3 HK
          go_wp2
          go_ret
          exact ⟨ret_bool HN.out.symm, b5⟩
        | true =>
          have HN := Lib.hid (show ikB zs q bx cy lo hi ps qs rs = wiB rs (prL zs q bx cy lo hi ps qs rs) by rw [HK.out, hb, Bool.true_and])
          clear hb HK
          have k1 := M1.cell0 (i := 0) (v := .slice a n ca) rfl
          have k3 := N3.cell0 (i := 0) rfl
          go_wp2_with fail
          clear k1 k3
          generalize w4.alloc (.cells #[.slice ag (prL zs q bx cy lo hi ps qs rs).length cg] 32) = U at *
          refine (H2.out U _ _ b5 (own_nil HO.out) (own_hs HO.out)).mono ?_
          rintro e w6 ⟨rfl, bl6⟩
          have b6 := below_to b5 bl6
          clear bl6 b5 M1 N3 HO H2
          go_wp2
          go_ret
          exact ⟨ret_bool HN.out.symm, b6⟩
end Go.Proofs.YtceeninhjlonbaaGreat
