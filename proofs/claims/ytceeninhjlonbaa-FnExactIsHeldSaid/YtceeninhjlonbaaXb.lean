/- The model's IsHeld over the translation. -/
import Derived.Test.YtceeninhjlonbaaXa
namespace Go.Proofs.Ytceeninhjlonbaa
open Go.RowKit
open Geo (H3)

theorem crA_ok {ps : List H3} (h : rokB ps = true) (n : ps ≠ []) {i : Nat} (hi : i < ps.length) : okS (crA ps i).a (crA ps i).b (crA ps i).c = true := by
  have k := (cnrF ps i).2.1
  rw [cnrF_of h n hi] at k
  exact k
theorem he_lha {zs : List Int} {q bx cy lo hi : Int} {ps qs : List H3} {sX sY sD uN uD : Int} {rs : List H3} {p : H3} (hr : rokB rs = true) (h : heG zs q bx cy lo hi ps qs sX sY sD uN uD p = true) : lhaB rs (heS zs q bx cy lo hi ps qs sX sY sD uN uD p).a (heS zs q bx cy lo hi ps qs sX sY sD uN uD p).b (heS zs q bx cy lo hi ps qs sX sY sD uN uD p).c = heB zs q bx cy lo hi ps qs sX sY sD uN uD rs p := by
  unfold heB hasB lhaB
  rw [h, hr, Bool.true_and, Bool.true_and, Bool.and_comm]
  congr 1
  rw [Bool.eq_iff_iff, List.all_eq_true, List.all_eq_true]
  have e : ∀ x ∈ rs, holdH x.a x.b x.c (heS zs q bx cy lo hi ps qs sX sY sD uN uD p).a (heS zs q bx cy lo hi ps qs sX sY sD uN uD p).b (heS zs q bx cy lo hi ps qs sX sY sD uN uD p).c = decide (sideV x.a x.b x.c (heS zs q bx cy lo hi ps qs sX sY sD uN uD p).a (heS zs q bx cy lo hi ps qs sX sY sD uN uD p).b (heS zs q bx cy lo hi ps qs sX sY sD uN uD p).c ≤ 0) := by
    intro x hx
    unfold holdH
    rw [heS_ok h, show okH x.a x.b x.c = true from rok_all hr x hx]
    simp
  exact ⟨fun k x hx => by rw [e x hx]; exact k x hx, fun k x hx => by rw [← e x hx]; exact k x hx⟩
theorem ih_all_no {zs : List Int} {q bx cy lo hi : Int} {ps qs : List H3} {sX sY sD uN uD : Int} {rs : List H3} {i : Nat} (h : i < ps.length) (c : heB zs q bx cy lo hi ps qs sX sY sD uN uD rs (crA ps i) = false) : ihB zs q bx cy lo hi ps qs sX sY sD uN uD rs = false := by
  unfold ihB
  have : (corL ps ps.length).all (heB zs q bx cy lo hi ps qs sX sY sD uN uD rs) = false := by
    rw [List.all_eq_false]
    exact ⟨crA ps i, List.mem_of_getElem? (corL_get ps h), by simp [c]⟩
  rw [this, Bool.and_false]
theorem ih_s {zs : List Int} {q bx cy lo hi : Int} {ps qs : List H3} {sX sY sD uN uD : Int} {rs : List H3} (h : isiB zs q bx cy lo hi ps qs uN uD = true) (k : okS sX sY sD = false) : ihB zs q bx cy lo hi ps qs sX sY sD uN uD rs = false :=
  ih_all_no (List.length_pos_iff.2 (isi_noise h).2.1) (by unfold heB heG nsC; rw [k]; simp)
theorem ih_r {zs : List Int} {q bx cy lo hi : Int} {ps qs : List H3} {sX sY sD uN uD : Int} {rs : List H3} (h : isiB zs q bx cy lo hi ps qs uN uD = true) (k : rokB rs = false) : ihB zs q bx cy lo hi ps qs sX sY sD uN uD rs = false :=
  ih_all_no (List.length_pos_iff.2 (isi_noise h).2.1) (by unfold heB hasB; rw [k]; simp)
theorem ih_end {zs : List Int} {q bx cy lo hi : Int} {ps qs : List H3} {sX sY sD uN uD : Int} {rs : List H3} {k : Nat} (h : isiB zs q bx cy lo hi ps qs uN uD = true) (c : ((corL ps ps.length).take k).all (heB zs q bx cy lo hi ps qs sX sY sD uN uD rs) = true) (e : k = ps.length) : ihB zs q bx cy lo hi ps qs sX sY sD uN uD rs = true := by
  unfold ihB
  rw [h, Bool.true_and]
  rwa [List.take_of_length_le (by rw [corL_len]; omega)] at c
theorem ih_take {zs : List Int} {q bx cy lo hi : Int} {ps qs : List H3} {sX sY sD uN uD : Int} {rs : List H3} {k : Nat} (h : k < ps.length) (t : heB zs q bx cy lo hi ps qs sX sY sD uN uD rs (crA ps k) = true) (a : ((corL ps ps.length).take k).all (heB zs q bx cy lo hi ps qs sX sY sD uN uD rs) = true) : ((corL ps ps.length).take (k + 1)).all (heB zs q bx cy lo hi ps qs sX sY sD uN uD rs) = true := by
  rw [List.take_add_one, corL_get ps h, List.all_append, a]
  simp [t]
set_option maxRecDepth 100000 in
set_option maxHeartbeats 6400000 in
theorem spec_ih (am : Option Addr) (nm cm : Nat) (zs : List Int) (q bx cy lo hi : Int) (an : Option Addr) (nn cn : Nat) (ps : List H3) (al : Option Addr) (nl cl : Nat) (qs : List H3) (sX sY sD uN uD : Int) (a : Option Addr) (n ca : Nat) (rs : List H3) (w : World) (hA : RAt w am nm zs an nn ps al nl qs) (h64 : R64 q bx cy lo hi ps qs) (hle : nm + nn + nl ≤ 1048576) (hs : In64 ⟨sX, sY, sD⟩) (hu : (-9223372036854775808 ≤ uN ∧ uN ≤ 9223372036854775807) ∧ -9223372036854775808 ≤ uD ∧ uD ≤ 9223372036854775807) (hl : rs.length = n) (hn : n ≤ 1048576) (hr64 : ∀ h ∈ rs, In64 h) (hz : a = none → n = 0 ∧ ca = 0) (hG : HsAt w a rs) (hnl : RNil am nm cm an nn cn al nl cl) :
    Calls Try.prog 13 #[.agg #[.slice am nm cm, .int .i64 q, .int .i64 bx, .int .i64 cy, .int .i64 lo, .int .i64 hi, .slice an nn cn, .slice al nl cl], .agg #[.int .i64 sX, .int .i64 sY, .int .i64 sD], .agg #[.int .i64 uN, .int .i64 uD], .agg #[.slice a n ca]] w fun e w' => e = .returned (.bool (ihB zs q bx cy lo hi ps qs sX sY sD uN uD rs)) ∧ Below w.heap.size w w' := by
  have bV := below_bx2 (below_bx2 (below_bx2 (below_one w (.cells #[.slice am nm cm, .int .i64 q, .int .i64 bx, .int .i64 cy, .int .i64 lo, .int .i64 hi, .slice an nn cn, .slice al nl cl] 39)) (.cells #[.int .i64 sX, .int .i64 sY, .int .i64 sD] 41)) (.cells #[.int .i64 uN, .int .i64 uD] 43)) (.cells #[.slice a n ca] 37)
  have K0 := (((blk_new w #[.slice am nm cm, .int .i64 q, .int .i64 bx, .int .i64 cy, .int .i64 lo, .int .i64 hi, .slice an nn cn, .slice al nl cl] 39 (b := w.heap.size) (by simp)).to (below_one _ (.cells #[.int .i64 sX, .int .i64 sY, .int .i64 sD] 41))).to (below_one _ (.cells #[.int .i64 uN, .int .i64 uD] 43))).to (below_one _ (.cells #[.slice a n ca] 37))
  have K1 := ((blk_new (w.alloc (.cells #[.slice am nm cm, .int .i64 q, .int .i64 bx, .int .i64 cy, .int .i64 lo, .int .i64 hi, .slice an nn cn, .slice al nl cl] 39)) #[.int .i64 sX, .int .i64 sY, .int .i64 sD] 41 (b := w.heap.size + 1) (by simp)).to (below_one _ (.cells #[.int .i64 uN, .int .i64 uD] 43))).to (below_one _ (.cells #[.slice a n ca] 37))
  have K2 := (blk_new ((w.alloc (.cells #[.slice am nm cm, .int .i64 q, .int .i64 bx, .int .i64 cy, .int .i64 lo, .int .i64 hi, .slice an nn cn, .slice al nl cl] 39)).alloc (.cells #[.int .i64 sX, .int .i64 sY, .int .i64 sD] 41)) #[.int .i64 uN, .int .i64 uD] 43 (b := w.heap.size + 1 + 1) (by simp)).to (below_one _ (.cells #[.slice a n ca] 37))
  have K3 := blk_new (((w.alloc (.cells #[.slice am nm cm, .int .i64 q, .int .i64 bx, .int .i64 cy, .int .i64 lo, .int .i64 hi, .slice an nn cn, .slice al nl cl] 39)).alloc (.cells #[.int .i64 sX, .int .i64 sY, .int .i64 sD] 41)).alloc (.cells #[.int .i64 uN, .int .i64 uD] 43)) #[.slice a n ca] 37 (b := w.heap.size + 1 + 1 + 1) (by simp)
  have HI := Lib.hid (fun V (h : Below w.heap.size w V) => spec_isi am nm cm zs q bx cy lo hi an nn cn ps al nl cl qs uN uD V (hA.below h) h64 hu hle hnl)
  have HSO := Lib.hid (fun V => spec_sok sX sY sD V hs.1.1 hs.1.2 hs.2.1.1 hs.2.1.2 hs.2.2.1 hs.2.2.2)
  have HRO := Lib.hid (fun V (h : Below w.heap.size w V) => spec_rok a n ca rs V hl hn hr64 hz (hG.below h))
  have HNS := Lib.hid (fun V (x : H3) (hx : okS x.a x.b x.c = true) (h : Below w.heap.size w V) => spec_ns am nm cm zs q bx cy lo hi an nn cn ps al nl cl qs sX sY sD uN uD x.a x.b x.c V (hA.below h) h64 hs hu (okS64 hx) hle hnl)
  have HH := Lib.hid (fun V (x : H3) (hr : rokB rs = true) (hx : okS x.a x.b x.c = true) (h : Below w.heap.size w V) => spec_lhas a n ca rs x.a x.b x.c V hl hn (rok_all hr) hx (hG.below h))
  have HCO := Lib.hid (fun V (h : Below w.heap.size w V) (hp : rokB ps = true) => spec_lcor an nn cn ps V hA.ln (by omega) (rok_all hp) (hA.hn.below h))
  have HLN := Lib.hid hA.ln
  clear hA h64 hs hu hl hn hr64 hz hG hnl
  have c0_0 := K0.c8_0
  have c0_1 := K0.c8_1
  have c0_2 := K0.c8_2
  have c0_3 := K0.c8_3
  have c0_4 := K0.c8_4
  have c0_5 := K0.c8_5
  have c0_6 := K0.c8_6
  have c0_7 := K0.c8_7
  have c2_0 := K2.cell0 (i := 0) (v := .int .i64 uN) rfl
  have c2_1 := K2.cell0 (i := 1) (v := .int .i64 uD) rfl
  go_enter Try.func13, Try.ntmps13
  go_wp2_with fail
  clear c0_0 c0_1 c0_2 c0_3 c0_4 c0_5 c0_6 c0_7 c2_0 c2_1
  generalize ((((w.alloc (.cells #[.slice am nm cm, .int .i64 q, .int .i64 bx, .int .i64 cy, .int .i64 lo, .int .i64 hi, .slice an nn cn, .slice al nl cl] 39)).alloc (.cells #[.int .i64 sX, .int .i64 sY, .int .i64 sD] 41)).alloc (.cells #[.int .i64 uN, .int .i64 uD] 43)).alloc (.cells #[.slice a n ca] 37)) = V at *
  refine (HI.out _ bV).mono ?_
  rintro e w1 ⟨rfl, bl1⟩
  have b1 := below_to bV bl1
  have L0 := K0.to bl1
  have L1 := K1.to bl1
  have L2 := K2.to bl1
  have L3 := K3.to bl1
  clear bV bl1 K0 K1 K2 K3 HI
  cases hii : isiB zs q bx cy lo hi ps qs uN uD with
  | false =>
    have HN := Lib.hid (ih_no (sX := sX) (sY := sY) (sD := sD) (rs := rs) hii)
    clear hii
    go_wp2
    go_ret
    exact ⟨ret_bool HN.out.symm, b1⟩
  | true =>
    have HIS := Lib.hid hii
    clear hii
    have s0 := L1.cell0 (i := 0) (v := .int .i64 sX) rfl
    have s1 := L1.cell0 (i := 1) (v := .int .i64 sY) rfl
    have s2 := L1.cell0 (i := 2) (v := .int .i64 sD) rfl
    go_wp2_with fail
    clear s0 s1 s2
    refine (HSO.out _).mono ?_
    rintro e w2 ⟨rfl, bl2⟩
    have b2 := below_to b1 bl2
    have M0 := L0.to bl2
    have M1 := L1.to bl2
    have M2 := L2.to bl2
    have M3 := L3.to bl2
    clear b1 bl2 L0 L1 L2 L3 HSO
    cases hso : okS sX sY sD with
    | false =>
      have HN := Lib.hid (ih_s (rs := rs) HIS.out hso)
      clear hso
      go_wp2
      go_ret
      exact ⟨ret_bool HN.out.symm, b2⟩
    | true =>
      clear hso
      have r0 := M3.cell0 (i := 0) (v := .slice a n ca) rfl
      go_wp2_with fail
      clear r0
      refine (HRO.out _ b2).mono ?_
      rintro e w3 ⟨rfl, bl3⟩
      have b3 := below_to b2 bl3
      have L0 := M0.to bl3
      have L1 := M1.to bl3
      have L2 := M2.to bl3
      have L3 := M3.to bl3
      clear b2 bl3 M0 M1 M2 M3 HRO
      cases hro : rokB rs with
      | false =>
        have HN := Lib.hid (ih_r (sX := sX) (sY := sY) (sD := sD) HIS.out hro)
        clear hro
        go_wp2
        go_ret
        exact ⟨ret_bool HN.out.symm, b3⟩
      | true =>
        have HRS := Lib.hid hro
        clear hro
        have hp := (isi_noise HIS.out).1
        have HPN := Lib.hid (isi_noise HIS.out)
        have HC0 := Lib.hid (HCO.out w3 b3 hp)
        clear hp HCO
        have k6 := L0.c8_6
        go_wp2_with fail
        clear k6
        refine HC0.out.mono ?_
        rintro e w4 ⟨ac, cc, rfl, hoc, bl4⟩
        have b4 := below_to b3 bl4
        have HC := Lib.hid (own_hs hoc)
        have M0 := L0.to bl4
        have M1 := L1.to bl4
        have M2 := L2.to bl4
        have M3 := L3.to bl4
        have HCL := Lib.hid (corL_len ps nn)
        clear hoc bl4 b3 L0 L1 L2 L3 HC0
        obtain ⟨m, hm⟩ : ∃ m, (corL ps nn).length = m := ⟨_, rfl⟩
        have hmn : m = nn := by rw [← hm]; exact HCL.out
        rw [hm]
        clear hm HCL
        subst hmn
        have HB0 := b4
        go_wp2
        go_loopw [31] (fun i wr => ∃ k : Nat, k ≤ m ∧ i = .int .i64 k ∧ ((corL ps ps.length).take k).all (heB zs q bx cy lo hi ps qs sX sY sD uN uD rs) = true ∧ Below w.heap.size w wr ∧ Below w4.heap.size w4 wr) (fun i _ => m - (intOf i).toNat)
        case atStart => exact ⟨0, Nat.zero_le _, rfl, rfl, b4, Below.refl _ _⟩
        case round =>
          obtain ⟨k, hk, rfl, hall, hbw, hb4⟩ := hrel
          have HA := Lib.hid hall
          clear hall
          by_cases hlt : k < m
          · have HKL := Lib.hid (show k < ps.length by rw [HLN.out]; exact hlt)
            have hx : (corL ps m)[k]? = some (crA ps k) := by rw [← HLN.out]; exact corL_get ps HKL.out
            obtain ⟨g, o, rfl, hcx⟩ := HC.out k _ hx
            obtain ⟨t1, t2, t3⟩ := hcx.to hb4
            have HOK := Lib.hid (crA_ok HPN.out.1 HPN.out.2.1 HKL.out)
            generalize hP : crA ps k = P at *
            have bn := below_one wr (.cells #[.int .i64 P.a, .int .i64 P.b, .int .i64 P.c] 41)
            have N5 := blk_new wr #[.int .i64 P.a, .int .i64 P.b, .int .i64 P.c] 41 rfl
            have b5 := below_to hbw bn
            have b54 := below_to hb4 bn
            have L0 := M0.to b54
            have L1 := M1.to b54
            have L2 := M2.to b54
            have L3 := M3.to b54
            have k0 := L0.c8_0
            have k1 := L0.c8_1
            have k2 := L0.c8_2
            have k3 := L0.c8_3
            have k4 := L0.c8_4
            have k5 := L0.c8_5
            have k6 := L0.c8_6
            have k7 := L0.c8_7
            have s0 := L1.cell0 (i := 0) rfl
            have s1 := L1.cell0 (i := 1) rfl
            have s2 := L1.cell0 (i := 2) rfl
            have u0 := L2.cell0 (i := 0) rfl
            have u1 := L2.cell0 (i := 1) rfl
            have x0 := N5.cell0 (i := 0) rfl
            have x1 := N5.cell0 (i := 1) rfl
            have x2 := N5.cell0 (i := 2) rfl
            have HPQ := Lib.hid hP
            clear hP hx hcx
            have HN1 := HNS.out (wr.alloc (.cells #[.int .i64 P.a, .int .i64 P.b, .int .i64 P.c] 41)) P HOK.out b5
            rw [ns_val zs q bx cy lo hi ps qs sX sY sD uN uD P] at HN1
            have HN2 := Lib.hid HN1
            clear HN1
            go_wp2_with fail
            clear k0 k1 k2 k3 k4 k5 k6 k7 s0 s1 s2 u0 u1 x0 x1 x2 t1 t2 t3
            generalize wr.alloc (.cells #[.int .i64 P.a, .int .i64 P.b, .int .i64 P.c] 41) = U at *
            refine HN2.out.mono ?_
            rintro e w5 ⟨rfl, bl5⟩
            have bm := below_one w5 (.cells #[.int .i64 (heS zs q bx cy lo hi ps qs sX sY sD uN uD P).a, .int .i64 (heS zs q bx cy lo hi ps qs sX sY sD uN uD P).b, .int .i64 (heS zs q bx cy lo hi ps qs sX sY sD uN uD P).c] 41)
            have bk := below_to bl5 bm
            have N6 := blk_new w5 #[.int .i64 (heS zs q bx cy lo hi ps qs sX sY sD uN uD P).a, .int .i64 (heS zs q bx cy lo hi ps qs sX sY sD uN uD P).b, .int .i64 (heS zs q bx cy lo hi ps qs sX sY sD uN uD P).c] 41 rfl
            have b6 := below_to b5 bk
            have b64 := below_to b54 bk
            have Q3 := L3.to bk
            clear HN2 bl5 bm bk b5 b54 bn N5 L0 L1 L2 L3
            cases hg : heG zs q bx cy lo hi ps qs sX sY sD uN uD P with
            | false =>
              have HN := Lib.hid (ih_all_no (rs := rs) HKL.out (by rw [HPQ.out]; unfold heB; rw [hg]; rfl : heB zs q bx cy lo hi ps qs sX sY sD uN uD rs (crA ps k) = false))
              clear hg Q3 N6
              go_wp2
              go_ret
              exact ⟨ret_bool HN.out.symm, b6⟩
            | true =>
              have HSK := Lib.hid (heS_ok hg)
              have HEQ := Lib.hid (he_lha HRS.out hg)
              clear hg
              have r0 := Q3.cell0 (i := 0) (v := .slice a n ca) rfl
              have y0 := N6.cell0 (i := 0) rfl
              have y1 := N6.cell0 (i := 1) rfl
              have y2 := N6.cell0 (i := 2) rfl
              generalize hS : heS zs q bx cy lo hi ps qs sX sY sD uN uD P = S at *
              clear hS
              have HH2 := Lib.hid (HH.out _ S HRS.out HSK.out b6)
              go_wp2_with fail
              clear r0 y0 y1 y2
              refine HH2.out.mono ?_
              rintro e w7 ⟨rfl, bl7⟩
              have b7 := below_to b6 bl7
              have b74 := below_to b64 bl7
              clear HH2 b6 b64 bl7 Q3 N6
              cases hr : lhaB rs S.a S.b S.c with
              | false =>
                have HN := Lib.hid (ih_all_no (rs := rs) HKL.out (by rw [HPQ.out, ← HEQ.out]; exact hr : heB zs q bx cy lo hi ps qs sX sY sD uN uD rs (crA ps k) = false))
                clear hr
                go_wp2
                go_ret
                exact ⟨ret_bool HN.out.symm, b7⟩
              | true =>
                have HT := Lib.hid (ih_take HKL.out (by rw [HPQ.out, ← HEQ.out]; exact hr : heB zs q bx cy lo hi ps qs sX sY sD uN uD rs (crA ps k) = true) HA.out)
                clear hr
                go_wp2
                go_roundw
                case rel => exact ⟨k + 1, by omega, by go_num, HT.out, b7, b74⟩
                case measure => simp [intOf]; omega
          · have HN := Lib.hid (ih_end HIS.out HA.out (by rw [HLN.out]; omega))
            have hkm : k = m := by omega
            subst hkm
            go_wp2
            go_ret
            exact ⟨ret_bool HN.out.symm, hbw⟩
end Go.Proofs.Ytceeninhjlonbaa
