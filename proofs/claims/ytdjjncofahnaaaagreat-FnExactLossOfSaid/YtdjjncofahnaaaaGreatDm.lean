/- LossOf of the model, over the translation. The walk of the law of LossOf. -/
import Derived.Test.YtdjjncofahnaaaaGreatDl
import Derived.Test.YtdjjncofahnaaaaGreatYz
import Derived.Test.YtdjjncofahnaaaaGreatMo
namespace Go.Proofs.YtdjjncofahnaaaaGreat
open Go.RowKit
open Geo (H3)

theorem lx_three {V X : World} {B C : Nat} {a0 a1 b0 b1 b2 : Value} {T U : TypeId} (h : Blk V B #[a0, a1] T) (k : Blk V C #[b0, b1, b2] U) (hb : Below V.heap.size V X) :
    X.cell? ⟨B, 0, none⟩ = some a0 ∧ X.cell? ⟨B, 1, none⟩ = some a1 ∧ X.cell? ⟨C, 2, none⟩ = some b2 :=
  ⟨(h.to hb).cell0 rfl, (h.to hb).cell0 rfl, (k.to hb).cell0 rfl⟩
theorem lx_one {n : Int} (h : -1000000000 ≤ n ∧ n ≤ 1000000000) : ofN n 1 = n ∧ ofD n 1 = 1 ∧ okR n 1 = true := by
  obtain ⟨h1, h2, h3⟩ := lxo_ok (n := n) (d := 1) (by omega) (by omega)
  obtain ⟨_, e2⟩ := of_num (n := n) (d := 1) (by omega)
  have hg : Int.gcd n 1 = 1 := by simp
  rw [hg] at e2
  have e3 : ofD n 1 = 1 := by unfold ofD; rw [if_pos h1, e2]; rfl
  rw [e3] at h2 h3
  have e4 : ofN n 1 = n := by omega
  rw [e4] at h2
  exact ⟨e4, e3, h2⟩
theorem lx_sum {N D c : Int} (k : okR N D = true) (hN : -500000000000000000 ≤ N ∧ N ≤ 500000000000000000) (hD : 1 ≤ D ∧ D ≤ 5000000000) (hc : -100000000 ≤ c ∧ c ≤ 100000000) : smN N D (-c) 1 = N - c * D ∧ smD N D (-c) 1 = D ∧ smB N D (-c) 1 = true := by
  have m := mul_in (-c) D 100000000 5000000000 (by omega) (by omega) (by omega) hD.2
  have e1 : -c * D = -(c * D) := Int.neg_mul _ _
  have hC : smC N D (-c) 1 = true := by
    unfold smC lpB lsB
    simp only [Int.mul_one]
    have a1 : (N.natAbs * (1 : Int).natAbs ≤ 9000000000000000000) := by simp; omega
    have a2 : ((-c).natAbs * D.natAbs ≤ 9000000000000000000) := by rw [← Int.natAbs_mul]; omega
    have a3 : (D.natAbs * (1 : Int).natAbs ≤ 9000000000000000000) := by simp; omega
    simp only [a1, a2, a3, decide_true, Bool.true_and, Bool.and_eq_true, decide_eq_true_eq]
    omega
  obtain ⟨s1, s2, s3⟩ := sm_yes hC
  rw [Int.mul_one, Int.mul_one, e1, show N + -(c * D) = N - c * D by omega] at s1 s2 s3
  have g := ((okR_iff _ _).1 k).2.2.2.2
  have g2 : Int.gcd (N - c * D) D = 1 := by
    have h1 : ((Int.gcd (N - c * D) D : Nat) : Int) ∣ D := Int.gcd_dvd_right ..
    have h2 : ((Int.gcd (N - c * D) D : Nat) : Int) ∣ N - c * D := Int.gcd_dvd_left ..
    have h3 : ((Int.gcd (N - c * D) D : Nat) : Int) ∣ N := by
      have := Int.dvd_add h2 (Int.dvd_trans h1 (Int.dvd_mul_left c D))
      rwa [show N - c * D + c * D = N by omega] at this
    have h4 := Int.dvd_coe_gcd h3 h1
    rw [g] at h4
    have := Int.natCast_dvd_natCast.1 h4
    exact Nat.dvd_one.1 this
  obtain ⟨o1, o2⟩ := of_num (n := N - c * D) (d := D) hD.1
  rw [g2] at o1 o2
  have hh := (lxo_ok (n := N - c * D) (d := D) (by omega) (by omega)).1
  refine ⟨by rw [s1]; unfold ofN; rw [if_pos hh, o1]; simp, by rw [s2]; unfold ofD; rw [if_pos hh, o2]; simp, by rw [s3, hh]⟩
theorem lx_len (a b : Int) : max a (-a) + max b (-b) = lenH a b := by unfold lenH; omega
set_option maxRecDepth 100000 in
set_option maxHeartbeats 6400000 in
theorem spec_lo (am : Option Addr) (nm cm : Nat) (zs : List Int) (q bx cy lo hi : Int) (an : Option Addr) (nn cn : Nat) (ps : List H3) (al : Option Addr) (nl cl : Nat) (qs : List H3) (m : Int) (hm : -9223372036854775808 ≤ m ∧ m ≤ 9223372036854775807) (w : World) (hA : RAt w am nm zs an nn ps al nl qs) (h64 : R64 q bx cy lo hi ps qs) (hle : nm + nn + nl ≤ 1048576) (hnl : RNil am nm cm an nn cn al nl cl) :
    Calls Tryz.prog 40 #[.agg #[.slice am nm cm, .int .i64 q, .int .i64 bx, .int .i64 cy, .int .i64 lo, .int .i64 hi, .slice an nn cn, .slice al nl cl], .int .i64 m] w fun e w' => e = .returned (.tuple #[.agg #[.int .i64 (loP zs q bx cy lo hi ps qs m).1, .int .i64 (loP zs q bx cy lo hi ps qs m).2], .bool (loB zs q bx cy lo hi ps qs m)]) ∧ Below w.heap.size w w' := by
  have bV := below_bx2 (below_one w (.cells #[.slice am nm cm, .int .i64 q, .int .i64 bx, .int .i64 cy, .int .i64 lo, .int .i64 hi, .slice an nn cn, .slice al nl cl] 28)) (.cells #[.int .i64 0, .int .i64 0] 50)
  have K0 := (blk_new w #[.slice am nm cm, .int .i64 q, .int .i64 bx, .int .i64 cy, .int .i64 lo, .int .i64 hi, .slice an nn cn, .slice al nl cl] 28 (b := w.heap.size) (by simp)).to (below_one _ (.cells #[.int .i64 0, .int .i64 0] 50))
  have K1 := blk_new (w.alloc (.cells #[.slice am nm cm, .int .i64 q, .int .i64 bx, .int .i64 cy, .int .i64 lo, .int .i64 hi, .slice an nn cn, .slice al nl cl] 28)) #[.int .i64 0, .int .i64 0] 50 (b := w.heap.size + 1) (by simp)
  have HC := Lib.hid (fun V (h : Below w.heap.size w V) => spec_rr am nm cm zs q bx cy lo hi an nn cn ps al nl cl qs m hm V (hA.below h) h64 hle hnl)
  have HKP := Lib.hid (fun V a1 c1 rs (h : Below w.heap.size w V) (hn : rs.length ≤ 40) (h6 : ∀ h ∈ rs, In64 h) (k0 : a1 = none → rs.length = 0 ∧ c1 = 0) (k : HsAt V a1 rs) => spec_kp am nm cm zs q bx cy lo hi an nn cn ps al nl cl qs a1 rs.length c1 rs V (hA.below h) h64 hle rfl (Nat.le_trans hn (by omega)) h6 k0 k hnl)
  have HLN := Lib.hid (rr_len (zs := zs) (q := q) (bx := bx) (cy := cy) (lo := lo) (hi := hi) (ps := ps) (qs := qs) m)
  have HO1 := Lib.hid (fun V => spec_ofA 0 1 V (by omega) (by omega) (by omega) (by omega))
  rw [of_01.1, of_01.2] at HO1
  clear hA h64 hle hm hnl
  have c0_0 := K0.c8_0
  have c0_1 := K0.c8_1
  have c0_2 := K0.c8_2
  have c0_3 := K0.c8_3
  have c0_4 := K0.c8_4
  have c0_5 := K0.c8_5
  have c0_6 := K0.c8_6
  have c0_7 := K0.c8_7
  go_enter Tryz.func40, Tryz.ntmps40
  go_wp2_with fail
  clear c0_0 c0_1 c0_2 c0_3 c0_4 c0_5 c0_6 c0_7
  generalize ((w.alloc (.cells #[.slice am nm cm, .int .i64 q, .int .i64 bx, .int .i64 cy, .int .i64 lo, .int .i64 hi, .slice an nn cn, .slice al nl cl] 28)).alloc (.cells #[.int .i64 0, .int .i64 0] 50)) = V at *
  refine (HC.out _ bV).mono ?_
  rintro e w1 ⟨ag, cg, rfl, ho, bl1⟩
  clear HC
  generalize hb : rrB zs q bx cy lo hi ps qs m = bb at *
  generalize hS : rrS zs q bx cy lo hi ps qs m = sS at *
  generalize (rrN zs q bx cy lo hi ps qs m : Int) = NN at *
  generalize hL : rrL zs q bx cy lo hi ps qs m = L at *
  have b1 := below_to bV bl1
  have bY := below_one w1 (.cells #[.slice ag L.length cg, .int .i64 NN, .bool sS] 43)
  have b2 := below_to b1 bY
  have L0 := (K0.to bl1).to bY
  have L1 := (K1.to bl1).to bY
  have N2 := blk_new w1 #[.slice ag L.length cg, .int .i64 NN, .bool sS] 43 rfl
  have HO := Lib.hid (own_below ho bY)
  clear ho b1 bY bV bl1 K0 K1
  cases bb with
  | false =>
    have HN := Lib.hid (lo_no (lo_1 hb))
    have q0 := L1.cell0 (i := 0) (v := .int .i64 0) rfl
    have q1 := L1.cell0 (i := 1) (v := .int .i64 0) rfl
    have f0 := L1.free 0
    have f1 := L1.free 1
    clear HO N2 L0 HKP HO1
    go_wp2_with fail
    exact bodyPost_ret (v := .tuple #[.agg #[.int .i64 0, .int .i64 0], .bool false]) (by simp [results, Tryz.results40, go_sem, q0, q1]) rfl ⟨by rw [HN.out.1, HN.out.2], ((b2.setCell (p := ⟨w.heap.size + 1, 0, none⟩) (Nat.le_add_right _ _) _).setCell (p := ⟨w.heap.size + 1, 1, none⟩) (Nat.le_add_right _ _) _)⟩
  | true =>
    have HV := Lib.hid (fun a1 n1 c1 V => spec_void a1 n1 c1 V)
    have e0 := N2.cell0 (i := 0) rfl
    go_wp2_with fail
    generalize w1.alloc (.cells #[.slice ag L.length cg, .int .i64 NN, .bool sS] 43) = U at *
    obtain ⟨C, hC⟩ : ∃ b, w1.heap.size = b := ⟨_, rfl⟩
    rw [hC] at N2 e0 ⊢
    clear hC
    refine (HV.out _ _ _ _).mono ?_
    rintro e w2 ⟨rfl, bl2⟩
    have b3 := below_to b2 bl2
    have M0 := L0.to bl2
    have M1 := L1.to bl2
    have M2 := N2.to bl2
    have HP := Lib.hid (own_below HO.out bl2)
    clear b2 bl2 L0 L1 N2 HO e0
    by_cases hLn : L = []
    · have hz : ((L.length : Int) == 0) = true := by rw [hLn]; rfl
      have HN := Lib.hid (lo_no (lo_3 (by rw [hL, hLn]; exact kp_nil)))
      have q0 := M1.cell0 (i := 0) (v := .int .i64 0) rfl
      have q1 := M1.cell0 (i := 1) (v := .int .i64 0) rfl
      have f0 := M1.free 0
      have f1 := M1.free 1
      clear HP M0 M2 HKP HO1 HV
      go_wp2_with fail
      exact bodyPost_ret (v := .tuple #[.agg #[.int .i64 0, .int .i64 0], .bool false]) (by simp [results, Tryz.results40, go_sem, q0, q1]) rfl ⟨by rw [HN.out.1, HN.out.2], ((b3.setCell (p := ⟨w.heap.size + 1, 0, none⟩) (Nat.le_add_right _ _) _).setCell (p := ⟨w.heap.size + 1, 1, none⟩) (Nat.le_add_right _ _) _)⟩
    · have hz : ((L.length : Int) == 0) = false := eq_b (by have := List.length_pos_iff.2 hLn; omega)
      have HLNE := Lib.hid hLn
      clear hLn
      have c0 := M0.c8_0
      have c1 := M0.c8_1
      have c2 := M0.c8_2
      have c3 := M0.c8_3
      have c4 := M0.c8_4
      have c5 := M0.c8_5
      have c6 := M0.c8_6
      have c7 := M0.c8_7
      have e0 := M2.cell0 (i := 0) rfl
      go_wp2_with fail
      clear e0 hz c0 c1 c2 c3 c4 c5 c6 c7
      have HL40 := Lib.hid (show L.length ≤ 40 ∧ ∀ x ∈ L, In64 x from ⟨HLN.out.1, HLN.out.2.1⟩)
      refine (HKP.out w2 _ _ L b3 HL40.out.1 HL40.out.2 (own_nil HP.out) (own_hs HP.out)).mono ?_
      rintro e w3 ⟨ah, ch, rfl, ho, bl3⟩
      have hK40 : (kpL zs q bx cy lo hi ps qs L).length ≤ 40 := kpL_len _ _ _ _ _ _ _ _ _
      generalize hK : kpL zs q bx cy lo hi ps qs L = K at *
      generalize hKB : kpB zs q bx cy lo hi ps qs L = kb at *
      have bY := below_to bl3 (below_one w3 (.cells #[.slice ah K.length ch] 26))
      have x1 := below_to b3 bY
      have X1 := M1.to bY
      have X2 := M2.to bY
      have X3 := blk_new w3 #[.slice ah K.length ch] 26 rfl
      have HOL := Lib.hid (own_below HP.out bY)
      have HOK := Lib.hid (own_below ho (below_one w3 (.cells #[.slice ah K.length ch] 26)))
      clear ho bl3 bY b3 M0 M1 M2 HP HKP
      cases kb with
      | false =>
        have HN := Lib.hid (lo_no (lo_2 (by rw [hL, hKB])))
        have q0 := X1.cell0 (i := 0) (v := .int .i64 0) rfl
        have q1 := X1.cell0 (i := 1) (v := .int .i64 0) rfl
        have f0 := X1.free 0
        have f1 := X1.free 1
        clear HOL HOK X2 X3 HO1
        go_wp2_with fail
        exact bodyPost_ret (v := .tuple #[.agg #[.int .i64 0, .int .i64 0], .bool false]) (by simp [results, Tryz.results40, go_sem, q0, q1]) rfl ⟨by rw [HN.out.1, HN.out.2], ((x1.setCell (p := ⟨w.heap.size + 1, 0, none⟩) (Nat.le_add_right _ _) _).setCell (p := ⟨w.heap.size + 1, 1, none⟩) (Nat.le_add_right _ _) _)⟩
      | true =>
        have HV := Lib.hid (fun a1 n1 c1 V => spec_void a1 n1 c1 V)
        have n0 := X3.cell0 (i := 0) rfl
        go_wp2_with fail
        clear n0
        generalize w3.alloc (.cells #[.slice ah K.length ch] 26) = Y at *
        obtain ⟨B8, hB8⟩ : ∃ b, w3.heap.size = b := ⟨_, rfl⟩
        rw [hB8] at X3 ⊢
        clear hB8
        refine (HV.out _ _ _ _).mono ?_
        rintro e w4 ⟨rfl, bl4⟩
        have y1 := below_to x1 bl4
        have Y1 := X1.to bl4
        have Y2 := X2.to bl4
        have Y3 := X3.to bl4
        have HPL := Lib.hid (own_below HOL.out bl4)
        have HPK := Lib.hid (own_below HOK.out bl4)
        clear x1 bl4 X1 X2 X3 HOL HOK HV
        by_cases hKn : K = []
        · have hz : ((K.length : Int) == 0) = true := by rw [hKn]; rfl
          have HN := Lib.hid (lo_no (lo_3 (by rw [hL, hK, hKn])))
          have q0 := Y1.cell0 (i := 0) (v := .int .i64 0) rfl
          have q1 := Y1.cell0 (i := 1) (v := .int .i64 0) rfl
          have f0 := Y1.free 0
          have f1 := Y1.free 1
          clear HPL HPK Y2 Y3 HO1
          go_wp2_with fail
          exact bodyPost_ret (v := .tuple #[.agg #[.int .i64 0, .int .i64 0], .bool false]) (by simp [results, Tryz.results40, go_sem, q0, q1]) rfl ⟨by rw [HN.out.1, HN.out.2], ((y1.setCell (p := ⟨w.heap.size + 1, 0, none⟩) (Nat.le_add_right _ _) _).setCell (p := ⟨w.heap.size + 1, 1, none⟩) (Nat.le_add_right _ _) _)⟩
        · have hz : ((K.length : Int) == 0) = false := eq_b (by have := List.length_pos_iff.2 hKn; omega)
          have HYES := Lib.hid (lo_yes (zs := zs) (q := q) (bx := bx) (cy := cy) (lo := lo) (hi := hi) (ps := ps) (qs := qs) (m := m) hb (by rw [hL]; exact hKB) (by rw [hL, hK]; exact hKn))
          rw [hL, hK] at HYES
          have HLR := Lib.hid (kp_rok hKB)
          rw [hK] at HLR
          have HLn := Lib.hid (show L ≠ [] by intro e; rw [e, kp_nil] at hK; exact hKn hK.symm)
          clear hKn hb hS hL hK hKB HLN HLNE
          go_wp2_with fail
          clear hz
          refine (HO1.out _).mono ?_
          rintro e w5 ⟨rfl, bl5⟩
          have z1 := below_to y1 bl5
          have Z1 := Y1.to bl5
          have Z2 := Y2.to bl5
          have Z3 := Y3.to bl5
          have HHZ := Lib.hid (own_nil HPL.out)
          have HHL := Lib.hid (own_hs (own_below HPL.out bl5))
          have HHK := Lib.hid (own_hs (own_below HPK.out bl5))
          clear y1 bl5 Y1 Y2 Y3 HPL HPK HO1
          have bY := below_one w5 (.cells #[.int .i64 0, .int .i64 1] 50)
          have N9 := blk_new w5 #[.int .i64 0, .int .i64 1] 50 rfl
          have n0 := (Z3.to bY).cell0 (i := 0) rfl
          go_wp2_with fail
          clear n0
          generalize w5.alloc (.cells #[.int .i64 0, .int .i64 1] 50) = U9 at *
          have HZ1 := Lib.hid Z1
          have HZ2 := Lib.hid Z2
          have HB := Lib.hid z1
          clear Z1 Z2 Z3 z1
          have hsz := N9.lt
          have HBY := Lib.hid bY
          have HN9 := Lib.hid N9
          clear bY N9
          go_loopw [50] (fun i wr => ∃ k : Nat, k ≤ K.length ∧ i = .int .i64 (k : Int) ∧ Below w5.heap.size w5 wr ∧ Blk wr w5.heap.size #[.int .i64 (lxM L (K.take k)).1, .int .i64 (lxM L (K.take k)).2] 50) (fun i _ => K.length - (intOf i).toNat)
          case atStart => exact ⟨0, Nat.zero_le _, rfl, HBY.out, HN9.out⟩
          case round =>
            obtain ⟨k, hk, rfl, hbel, h9⟩ := hrel
            clear HN9 HBY hsz
            by_cases hlt : k < K.length
            · obtain ⟨h, hx⟩ : ∃ h, K[k]? = some h := ⟨_, List.getElem?_eq_getElem hlt⟩
              have HLT := Lib.hid (show k + 1 ≤ K.length by omega)
              have hkk := HLR.out.2 h (List.mem_of_getElem? hx)
              have HTK := Lib.hid (lxM_take L hx)
              obtain ⟨g, o, rfl, hc⟩ := HHK.out k _ hx
              obtain ⟨t1, t2, t3⟩ := hc.to hbel
              (try simp only at t1 t2 t3)
              have l1 := block_lt_of_cell t1
              have hmo := (okR_iff _ _).1 (lxM_ok HLR.out.1 HLn.out (K.take k) (fun x hx => HLR.out.2 x (List.mem_of_mem_take hx)))
              have hlo := (okR_iff _ _).1 (lx_ok HLR.out.1 HLn.out hkk).1
              obtain ⟨pk, pA, pB, hsb, hsA, hsB, iA, iB, ic, nz⟩ := lx_parts HLR.out.1 HLn.out hkk
              have hll := lxl_in iA iB nz
              obtain ⟨i1, i2, i3⟩ := lx_in pA pB ic hll
              have hone := lx_one (n := -h.c) (by omega)
              have HSU := Lib.hid (fun V (q : Below w5.heap.size w5 V) => spec_sup ag L.length cg L h.a h.b V rfl (by have := HL40.out.1; omega) HL40.out.2 HHZ.out (HHL.out.below q))
              rw [hsA, hsB, hsb] at HSU
              have HR1 := Lib.hid (fun V => spec_ofA (-h.c) 1 V (by omega) (by omega) (by omega) (by omega))
              rw [hone.1, hone.2.1] at HR1
              have HSM := Lib.hid (fun V => spec_sumA (lxA L h) (lxB L h) (-h.c) 1 V pk hone.2.2)
              rw [(lx_sum pk pA pB ic).1, (lx_sum pk pA pB ic).2.1, (lx_sum pk pA pB ic).2.2] at HSM
              have HOF := Lib.hid (fun V => spec_ofA (lxA L h - h.c * lxB L h) (lxB L h * lenH h.a h.b) V (by omega) (by omega) (by omega) (by omega))
              have hxl := lx_len h.a h.b
              have HMX := Lib.hid (fun V => spec_max (lxM L (K.take k)).1 (lxM L (K.take k)).2 (lxN L h) (lxD L h) V (by omega) (by omega) (by omega) (by omega) (by omega) (by omega) (by omega) (by omega))
              rw [← HTK.out] at HMX
              clear hmo hlo hx hc hkk hsA hsB hsb hone pk nz
              unfold lxN lxD at HMX
              obtain ⟨ha, hb, hc⟩ := h
              (try simp only at *)
              generalize ofN (lxA L ⟨ha, hb, hc⟩ - hc * lxB L ⟨ha, hb, hc⟩) (lxB L ⟨ha, hb, hc⟩ * lenH ha hb) = xN at *
              generalize ofD (lxA L ⟨ha, hb, hc⟩ - hc * lxB L ⟨ha, hb, hc⟩) (lxB L ⟨ha, hb, hc⟩ * lenH ha hb) = xD at *
              generalize lxA L ⟨ha, hb, hc⟩ = N at *
              generalize lxB L ⟨ha, hb, hc⟩ = D at *
              generalize lenH ha hb = l at *
              generalize eu : hc * D = u at *
              generalize ep : D * l = p at *
              generalize (lxM L (K.take k)).1 = mN at *
              generalize (lxM L (K.take k)).2 = mD at *
              generalize hM1 : (lxM L (K.take (k + 1))).1 = M1 at *
              generalize hM2 : (lxM L (K.take (k + 1))).2 = M2 at *
              have bX := below_to hbel (below_one wr (.cells #[.int .i64 ha, .int .i64 hb, .int .i64 hc] 39))
              have N11 := blk_new wr #[.int .i64 ha, .int .i64 hb, .int .i64 hc] 39 rfl
              have X9 := h9.to (below_one wr (.cells #[.int .i64 ha, .int .i64 hb, .int .i64 hc] 39))
              have l9 := X9.lt
              have X2 := (HZ2.out.to hbel).to (below_one wr (.cells #[.int .i64 ha, .int .i64 hb, .int .i64 hc] 39))
              have e0 := X2.cell0 (i := 0) rfl
              have d0 := N11.cell0 (i := 0) rfl
              have d1 := N11.cell0 (i := 1) rfl
              go_wp2_with fail
              generalize wr.alloc (.cells #[.int .i64 ha, .int .i64 hb, .int .i64 hc] 39) = X at *
              obtain ⟨g11, hg11⟩ : ∃ b, wr.heap.size = b := ⟨_, rfl⟩
              rw [hg11] at N11 d0 d1 ⊢
              refine (HSU.out X bX).mono ?_
              rintro e w6 ⟨rfl, bl6⟩
              have bY := below_to bl6 (below_one w6 (.cells #[.int .i64 N, .int .i64 D] 50))
              have b6 := below_to bX bY
              have Y11 := N11.to bY
              have Y9 := X9.to bY
              have N13 := blk_new w6 #[.int .i64 N, .int .i64 D] 50 rfl
              clear bl6 bY bX N11 X9 X2 e0 d0 d1 HSU
              have x0 := N13.cell0 (i := 0) rfl
              have x1 := N13.cell0 (i := 1) rfl
              have d2 := Y11.cell0 (i := 2) rfl
              have v0 : IntKind.i64.wrap (-hc) = -hc := IntWalk.i64_in _ (by omega)
              go_wp2_with fail
              generalize w6.alloc (.cells #[.int .i64 N, .int .i64 D] 50) = Y at *
              obtain ⟨g13, hg13⟩ : ∃ b, w6.heap.size = b := ⟨_, rfl⟩
              rw [hg13] at N13 x0 x1 ⊢
              go_cut [64, 15, 16] from 65 to 72 (fun s1 s2 s3 wx => (∃ g, s2 = .pointer (some ⟨g, 0, none⟩) ∧ Y.heap.size ≤ g ∧ Blk wx g #[.int .i64 (N - u), .int .i64 D] 50 ∧ Below Y.heap.size Y wx) ∧ s3 = .bool true)
              case first =>
                go_region_held3 (fun w' => w'.cell? ⟨g13, 0, none⟩ = some (.int .i64 N) ∧ w'.cell? ⟨g13, 1, none⟩ = some (.int .i64 D) ∧ w'.cell? ⟨g11, 2, none⟩ = some (.int .i64 hc))
                  ((refine lx_three N13 Y11 ?_; repeat (first | exact Below.refl _ _ | refine Below.setCell ?_ (by first | (simp; done) | (simp; omega)) _ | refine below_bx2 ?_ _ | refine below_drw ?_ | refine below_to ?_ (by assumption))))
                  (first | (go_at_call 85; (with_reducible refine (HR1.out _).mono ?_); rintro e w7 ⟨rfl, bl7⟩; have hs7 := bl7.size; (try simp at hs7)) | (go_at_call 87; (with_reducible refine (HSM.out _).mono ?_); rintro e w8 ⟨rfl, bl8⟩; obtain ⟨hcC, hfC⟩ := bcl3 bl8; obtain ⟨hcD, hfD⟩ := bcl3 (blx_next (Y := w8) bl7 (by refine below_to ?_ bl8; repeat (first | exact Below.refl _ _ | refine below_bx2 ?_ _ | refine below_drw ?_))); have hs8 := bl8.size; (try simp at hs8)))
                all_goals
                  go_wp2_with fail
                  go_meet
                  refine ⟨⟨_, rfl, ?_, ?_, ?_⟩, rfl⟩
                  · first | exact Nat.le_refl _ | omega | (simp; omega)
                  · first
                    | exact heap_alloc_new _ _
                    | (refine blk_set2 (u := .int .i64 0) (v := .int .i64 0) ?_ _ _
                       apply at_new3 (Z := .cells #[.int .i64 0, .int .i64 0] 50)
                       · repeat (first | exact Below.refl _ _ | refine below_bx2 ?_ _ | refine below_drw ?_ | refine below_to ?_ (by assumption))
                       · first | rfl | (simp; done))
                  · repeat (first | exact Below.refl _ _ | refine Below.setCell ?_ (by first | (simp; done) | (simp; omega)) _ | refine below_bx2 ?_ _ | refine below_drw ?_ | refine below_to ?_ (by assumption))
              case rest =>
                obtain ⟨⟨g, rfl, hg, hh, hb2⟩, rfl⟩ := hcut
                rename World => wc
                have KQ : Blk wc g #[.int .i64 (N - u), .int .i64 D] 50 := hh
                have b7 := below_to b6 hb2
                have Z11 := Y11.to hb2
                have Z9 := Y9.to hb2
                clear hh hb2 b6 Y11 Y9 N13 x0 x1 d2 HR1 HSM
                have k0 := KQ.cell0 (i := 0) rfl
                have k1 := KQ.cell0 (i := 1) rfl
                have d0 := Z11.cell0 (i := 0) rfl
                have d1 := Z11.cell0 (i := 1) rfl
                have v1 : IntKind.i64.wrap (-ha) = -ha := IntWalk.i64_in _ (by have := iA.1; have := iA.2; omega)
                have v2 : IntKind.i64.wrap (-hb) = -hb := IntWalk.i64_in _ (by have := iB.1; have := iB.2; omega)
                have v3 : IntKind.i64.wrap (max ha (-ha) + max hb (-hb)) = l := by rw [hxl]; exact IntWalk.i64_in _ (by omega)
                have v4 : IntKind.i64.wrap (D * l) = p := by rw [ep]; exact IntWalk.i64_in _ (by omega)
                go_wp2_with fail
                refine (HOF.out _).mono ?_
                rintro e w9 ⟨rfl, bl9⟩
                have bZ := below_to bl9 (below_one w9 (.cells #[.int .i64 xN, .int .i64 xD] 50))
                have b9 := below_to b7 bZ
                have W9 := Z9.to bZ
                have N17 := blk_new w9 #[.int .i64 xN, .int .i64 xD] 50 rfl
                clear bl9 bZ b7 Z11 Z9 KQ k0 k1 d0 d1 v1 v2 v3 v4 HOF
                have s0 := W9.cell0 (i := 0) rfl
                have s1 := W9.cell0 (i := 1) rfl
                have r0 := N17.cell0 (i := 0) rfl
                have r1 := N17.cell0 (i := 1) rfl
                go_wp2_with fail
                generalize w9.alloc (.cells #[.int .i64 xN, .int .i64 xD] 50) = T at *
                clear s0 s1 r0 r1 N17
                refine (HMX.out _).mono ?_
                rintro e w10 ⟨rfl, bl10⟩
                have b10 := below_to b9 bl10
                have F9 := W9.to bl10
                clear b9 W9 bl10 HMX
                have f0 := F9.free 0
                have f1 := F9.free 1
                have t0 := F9.cell0 (i := 0) rfl
                have t1 := F9.cell0 (i := 1) rfl
                have HF9 := Lib.hid (blk_set2 F9 (.int .i64 M1) (.int .i64 M2))
                have HB8 := Lib.hid ((b10.setCell (p := ⟨w5.heap.size, 0, none⟩) (Nat.le_refl _) (.int .i64 M1)).setCell (p := ⟨w5.heap.size, 1, none⟩) (Nat.le_refl _) (.int .i64 M2))
                clear F9 b10
                go_wp2_with fail
                go_roundw
                case rel => exact ⟨k + 1, HLT.out, by go_num, HB8.out, by rw [hM1, hM2]; exact HF9.out⟩
                case measure => (have := HLT.out; simp [intOf]; omega)
            · have hkn : k = K.length := by omega
              subst hkn
              rw [List.take_length] at h9
              have hbw := below_to HB.out hbel
              have X1 := HZ1.out.to hbel
              have hmo := (okR_iff _ _).1 (lxM_ok HLR.out.1 HLn.out K HLR.out.2)
              have hmk := lxM_ok HLR.out.1 HLn.out K HLR.out.2
              have HOK := Lib.hid (fun V => spec_ok (lxM L K).1 (lxM L K).2 V (by omega) (by omega) (by omega) (by omega))
              rw [hmk] at HOK
              clear hmo hmk
              have hA1 : w.heap.size + 1 ≠ w5.heap.size := by have := HZ1.out.lt; omega
              generalize hM1 : (lxM L K).1 = M1 at *
              generalize hM2 : (lxM L K).2 = M2 at *
              have r0 := h9.cell0 (i := 0) rfl
              have r1 := h9.cell0 (i := 1) rfl
              have q0 := X1.cell0 (i := 0) (v := .int .i64 0) rfl
              have q1 := X1.cell0 (i := 1) (v := .int .i64 0) rfl
              have f0 := X1.free 0
              have f1 := X1.free 1
              have h9' := blk_far (blk_far h9 (p := ⟨w.heap.size + 1, 0, none⟩) (.int .i64 M1) hA1) (p := ⟨w.heap.size + 1, 1, none⟩) (.int .i64 M2) hA1
              have s0 := h9'.cell0 (i := 0) rfl
              have s1 := h9'.cell0 (i := 1) rfl
              have HS9 := Lib.hid ((hbw.setCell (p := ⟨w.heap.size + 1, 0, none⟩) (Nat.le_add_right _ _) (.int .i64 M1)).setCell (p := ⟨w.heap.size + 1, 1, none⟩) (Nat.le_add_right _ _) (.int .i64 M2))
              have HX2 := Lib.hid (blk_set2 X1 (.int .i64 M1) (.int .i64 M2))
              go_wp2_with fail
              go_region_with ((go_at_call 89; (with_reducible refine (HOK.out _).mono ?_); rintro e w12 ⟨rfl, bl12⟩); (first | (with_reducible have G1 := X1.to (below_to (below_drw (Below.refl _ _)) bl12); have G9 := h9.to (below_to (below_drw (Below.refl _ _)) bl12); have r0' := G9.cell0 (i := 0) rfl; have r1' := G9.cell0 (i := 1) rfl; have q0' := G1.cell0 (i := 0) rfl; have q1' := G1.cell0 (i := 1) rfl; have f0' := G1.free 0; have f1' := G1.free 1; have hbz := below_to hbw (below_to (below_drw (Below.refl _ _)) bl12)) | (with_reducible have G2 := HX2.out.to (below_to (below_drw (Below.refl _ _)) bl12); have q0' := G2.cell0 (i := 0) rfl; have q1' := G2.cell0 (i := 1) rfl; have hbz := below_to HS9.out (below_to (below_drw (Below.refl _ _)) bl12))))
              all_goals
                go_wp2_with fail
                first | exact bodyPost_ret (v := .tuple #[.agg #[.int .i64 M1, .int .i64 M2], .bool true]) (by simp [results, Tryz.results40, go_sem, q0', q1']) rfl ⟨by rw [HYES.out.1, HYES.out.2, hM1, hM2], (hbz.setCell (p := ⟨w.heap.size + 1, 0, none⟩) (Nat.le_add_right _ _) (.int .i64 M1)).setCell (p := ⟨w.heap.size + 1, 1, none⟩) (Nat.le_add_right _ _) (.int .i64 M2)⟩ | exact bodyPost_ret (v := .tuple #[.agg #[.int .i64 M1, .int .i64 M2], .bool true]) (by simp [results, Tryz.results40, go_sem, q0', q1']) rfl ⟨by rw [HYES.out.1, HYES.out.2, hM1, hM2], hbz⟩

theorem room16n {V X : World} {B C : Nat} {a0 a1 a2 a3 a4 a5 a6 a7 b0 b1 b2 b3 b4 b5 b6 b7 : Value} {T U : TypeId} (h : Blk V B #[a0, a1, a2, a3, a4, a5, a6, a7] T) (k : Blk V C #[b0, b1, b2, b3, b4, b5, b6, b7] U) (hb : Below V.heap.size V X) :
    X.cell? ⟨B, 0, none⟩ = some a0 ∧ X.cell? ⟨B, 1, none⟩ = some a1 ∧ X.cell? ⟨B, 2, none⟩ = some a2 ∧ X.cell? ⟨B, 3, none⟩ = some a3 ∧ X.cell? ⟨B, 4, none⟩ = some a4 ∧ X.cell? ⟨B, 5, none⟩ = some a5 ∧ X.cell? ⟨B, 6, none⟩ = some a6 ∧ X.cell? ⟨B, 7, none⟩ = some a7 ∧ X.cell? ⟨C, 0, none⟩ = some b0 ∧ X.cell? ⟨C, 1, none⟩ = some b1 ∧ X.cell? ⟨C, 2, none⟩ = some b2 ∧ X.cell? ⟨C, 3, none⟩ = some b3 ∧ X.cell? ⟨C, 4, none⟩ = some b4 ∧ X.cell? ⟨C, 5, none⟩ = some b5 ∧ X.cell? ⟨C, 6, none⟩ = some b6 ∧ X.cell? ⟨C, 7, none⟩ = some b7 :=
  ⟨(h.to hb).c8_0, (h.to hb).c8_1, (h.to hb).c8_2, (h.to hb).c8_3, (h.to hb).c8_4, (h.to hb).c8_5, (h.to hb).c8_6, (h.to hb).c8_7, (k.to hb).c8_0, (k.to hb).c8_1, (k.to hb).c8_2, (k.to hb).c8_3, (k.to hb).c8_4, (k.to hb).c8_5, (k.to hb).c8_6, (k.to hb).c8_7⟩
theorem ROwn.rows_lt {w : World} {B nm cm nn cn nl cl : Nat} {am an al : Option Addr} {zs : List Int} {ps qs : List H3} (h : ROwn w B am nm cm zs an nn cn ps al nl cl qs) : ∀ p, ((Value.slice am nm cm).ownBlock = some p ∨ (Value.slice an nn cn).ownBlock = some p ∨ (Value.slice al nl cl).ownBlock = some p) → B ≤ p ∧ p < w.heap.size := by
  rintro p (k | k | k)
  · exact own_block_lt h.om k
  · exact own_block_lt h.on k
  · exact own_block_lt h.ol k
set_option maxRecDepth 100000 in
set_option maxHeartbeats 12800000 in
theorem law_lo (am : Option Addr) (nm cm : Nat) (zs : List Int) (q bx cy lo hi : Int) (an : Option Addr) (nn cn : Nat) (ps : List H3) (al : Option Addr) (nl cl : Nat) (qs : List H3) (m : Int) (wm : (Lit.int .i64 m).wf = true) (w : World) (h64 : R64 q bx cy lo hi ps qs) (h1 : nm ≤ maxLen) (h2 : nn ≤ maxLen) (h3 : nl ≤ maxLen) (hA : RAt w am nm zs an nn ps al nl qs) :
    Calls Tryz.prog 9 #[.agg #[.slice am nm cm, .int .i64 q, .int .i64 bx, .int .i64 cy, .int .i64 lo, .int .i64 hi, .slice an nn cn, .slice al nl cl], .int .i64 m] w fun e w' => e = .returned (.bool true) ∧ Below w.heap.size w w' := by
  have bV := below_one w (.cells #[.slice am nm cm, .int .i64 q, .int .i64 bx, .int .i64 cy, .int .i64 lo, .int .i64 hi, .slice an nn cn, .slice al nl cl] 61)
  have K0 := blk_new w #[.slice am nm cm, .int .i64 q, .int .i64 bx, .int .i64 cy, .int .i64 lo, .int .i64 hi, .slice an nn cn, .slice al nl cl] 61 (b := w.heap.size) (by simp)
  by_cases hle : (nm : Int) + nn + nl ≤ 1048576
  · have HZ := Lib.hid (fun V => sz_room am nm cm q bx cy lo hi an nn cn al nl cl V h1 h2 h3 1048576 (by omega) (by omega) (1048576 - nm - nn - nl) (by rw [if_pos hle]))
    have HT := Lib.hid (fun V (h : Below w.heap.size w V) => to_room am nm cm zs q bx cy lo hi an nn cn ps al nl cl qs V (hA.below h) (by omega))
    have HE := Lib.hid (fun V am1 cm1 an1 cn1 al1 cl1 am2 cm2 an2 cn2 al2 cl2 (k1 : RAt V am1 nm zs an1 nn ps al1 nl qs) (k2 : RAt V am2 nm zs an2 nn ps al2 nl qs) => eq_room am1 nm cm1 zs q bx cy lo hi an1 nn cn1 ps al1 nl cl1 qs am2 cm2 an2 cn2 al2 cl2 V k1 k2 (by omega))
    have HS := Lib.hid (fun V am1 cm1 an1 cn1 al1 cl1 (k0 : RNil am1 nm cm1 an1 nn cn1 al1 nl cl1) (k1 : RAt V am1 nm zs an1 nn ps al1 nl qs) => spec_lo am1 nm cm1 zs q bx cy lo hi an1 nn cn1 ps al1 nl cl1 qs m (bounds_i64 wm) V k1 h64 (by omega) k0)
    have HI := Lib.hid (fun V am1 cm1 an1 cn1 al1 cl1 (k1 : RAt V am1 nm zs an1 nn ps al1 nl qs) => impl_lo am1 nm cm1 zs q bx cy lo hi an1 nn cn1 ps al1 nl cl1 qs m (bounds_i64 wm) V k1 h64 (by omega))
    generalize (loP zs q bx cy lo hi ps qs m).1 = NN at *
    generalize (loP zs q bx cy lo hi ps qs m).2 = DD at *
    generalize loB zs q bx cy lo hi ps qs m = R at *
    clear wm
    have hz1 : ¬ (1048576 - (nm : Int) - nn - nl < 0) := by omega
    clear hA h64 h1 h2 h3
    go_enter Tryz.func9, Tryz.ntmps9
    have c0_0 := K0.c8_0
    have c0_1 := K0.c8_1
    have c0_2 := K0.c8_2
    have c0_3 := K0.c8_3
    have c0_4 := K0.c8_4
    have c0_5 := K0.c8_5
    have c0_6 := K0.c8_6
    have c0_7 := K0.c8_7
    go_wp2_with fail
    clear c0_0 c0_1 c0_2 c0_3 c0_4 c0_5 c0_6 c0_7
    generalize (w.alloc (.cells #[.slice am nm cm, .int .i64 q, .int .i64 bx, .int .i64 cy, .int .i64 lo, .int .i64 hi, .slice an nn cn, .slice al nl cl] 61)) = V at *
    refine (HZ.out _).mono ?_
    rintro e w1 ⟨rfl, bl1⟩
    have P0_1 := K0.to bl1
    have b_2 := below_to bV bl1
    clear K0 bV
    clear bl1 HZ
    have c0 := P0_1.c8_0
    have c1 := P0_1.c8_1
    have c2 := P0_1.c8_2
    have c3 := P0_1.c8_3
    have c4 := P0_1.c8_4
    have c5 := P0_1.c8_5
    have c6 := P0_1.c8_6
    have c7 := P0_1.c8_7
    go_wp2_with fail
    clear c0 c1 c2 c3 c4 c5 c6 c7
    refine (HT.out _ b_2).mono ?_
    rintro e w2 ⟨amR, cmR, anR, cnR, alR, clR, rfl, hoR, blR⟩
    have P0_3 := P0_1.to blR
    have b_4 := below_to b_2 blR
    clear P0_1 b_2
    have zR := blR.size
    clear blR
    have y0 := P0_3.lt
    go_wp2_with fail
    refine (HS.out _ _ _ _ _ _ _ hoR.nil hoR.at).mono ?_
    rintro e w3 ⟨rfl, blW⟩
    have bGW := below_to blW (below_one w3 (.cells #[.int .i64 NN, .int .i64 DD] 50))
    have zW := blW.size
    have KW := blk_new w3 #[.int .i64 NN, .int .i64 DD] 50 rfl
    have yW : (w3.alloc (.cells #[.int .i64 NN, .int .i64 DD] 50)).heap.size = w3.heap.size + 1 := by simp
    have P0_5 := P0_3.to bGW
    have b_6 := below_to b_4 bGW
    clear P0_3 b_4
    clear bGW blW
    clear hoR HS
    have c0 := P0_5.c8_0
    have c1 := P0_5.c8_1
    have c2 := P0_5.c8_2
    have c3 := P0_5.c8_3
    have c4 := P0_5.c8_4
    have c5 := P0_5.c8_5
    have c6 := P0_5.c8_6
    have c7 := P0_5.c8_7
    go_wp2_with fail
    clear c0 c1 c2 c3 c4 c5 c6 c7
    generalize w3.alloc (.cells #[.int .i64 NN, .int .i64 DD] 50) = W3 at *
    obtain ⟨eW, heW⟩ : ∃ b, w3.heap.size = b := ⟨_, rfl⟩
    rw [heW] at KW yW zW ⊢
    clear heW
    refine (HT.out _ b_6).mono ?_
    rintro e w4 ⟨am4, cm4, an4, cn4, al4, cl4, rfl, ho4, bl4⟩
    have bX := below_to bl4 (below_one w4 (.cells #[.slice am4 nm cm4, .int .i64 q, .int .i64 bx, .int .i64 cy, .int .i64 lo, .int .i64 hi, .slice an4 nn cn4, .slice al4 nl cl4] 28))
    have xr := Lib.hid ho4.rows_lt
    have z4 := bl4.size
    have KX := blk_new w4 #[.slice am4 nm cm4, .int .i64 q, .int .i64 bx, .int .i64 cy, .int .i64 lo, .int .i64 hi, .slice an4 nn cn4, .slice al4 nl cl4] 28 rfl
    have OX := Lib.hid (ho4.below (below_one w4 (.cells #[.slice am4 nm cm4, .int .i64 q, .int .i64 bx, .int .i64 cy, .int .i64 lo, .int .i64 hi, .slice an4 nn cn4, .slice al4 nl cl4] 28)))
    have y4 : (w4.alloc (.cells #[.slice am4 nm cm4, .int .i64 q, .int .i64 bx, .int .i64 cy, .int .i64 lo, .int .i64 hi, .slice an4 nn cn4, .slice al4 nl cl4] 28)).heap.size = w4.heap.size + 1 := by simp
    have P0_7 := P0_5.to bX
    have b_8 := below_to b_6 bX
    have KW_9 := KW.to bX
    clear P0_5 b_6 KW
    clear bX bl4 ho4
    have c0 := KX.c8_0
    have c1 := KX.c8_1
    have c2 := KX.c8_2
    have c3 := KX.c8_3
    have c4 := KX.c8_4
    have c5 := KX.c8_5
    have c6 := KX.c8_6
    have c7 := KX.c8_7
    go_wp2_with fail
    clear c0 c1 c2 c3 c4 c5 c6 c7
    generalize w4.alloc (.cells #[.slice am4 nm cm4, .int .i64 q, .int .i64 bx, .int .i64 cy, .int .i64 lo, .int .i64 hi, .slice an4 nn cn4, .slice al4 nl cl4] 28) = X at *
    obtain ⟨ex, hex⟩ : ∃ b, w4.heap.size = b := ⟨_, rfl⟩
    rw [hex] at KX y4 z4 xr ⊢
    clear hex
    refine (HI.out _ _ _ _ _ _ _ OX.out.at).mono ?_
    rintro e w6 ⟨rfl, blG⟩
    have bGG := below_to blG (below_one w6 (.cells #[.int .i64 NN, .int .i64 DD] 50))
    have zG := blG.size
    have KG := blk_new w6 #[.int .i64 NN, .int .i64 DD] 50 rfl
    have yG : (w6.alloc (.cells #[.int .i64 NN, .int .i64 DD] 50)).heap.size = w6.heap.size + 1 := by simp
    have P0_10 := P0_7.to bGG
    have b_11 := below_to b_8 bGG
    have KW_12 := KW_9.to bGG
    have KX_13 := KX.to bGG
    have OX_14 := Lib.hid (OX.out.below bGG)
    clear P0_7 b_8 KW_9 KX OX
    clear bGG blG
    have c0 := KG.cell0 (i := 0) rfl
    have d0 := KW_12.cell0 (i := 0) rfl
    have c1 := KG.cell0 (i := 1) rfl
    have d1 := KW_12.cell0 (i := 1) rfl
    go_wp2_with fail
    clear c0 d0 c1 d1
    generalize w6.alloc (.cells #[.int .i64 NN, .int .i64 DD] 50) = Z at *
    obtain ⟨eG, heG⟩ : ∃ b, w6.heap.size = b := ⟨_, rfl⟩
    rw [heG] at KG yG zG ⊢
    clear heG
    refine (eq_ratio NN DD _).mono ?_
    rintro e w7 ⟨rfl, blw7⟩
    have zw7 := blw7.size
    have P0_15 := P0_10.to blw7
    have b_16 := below_to b_11 blw7
    have KW_17 := KW_12.to blw7
    have KX_18 := KX_13.to blw7
    have OX_19 := Lib.hid (OX_14.out.below blw7)
    have KG_20 := KG.to blw7
    clear P0_10 b_11 KW_12 KX_13 OX_14 KG
    clear blw7
    go_wp2
    go_region_held3 (fun w' => w'.cell? ⟨ex, 0, none⟩ = some (.slice am4 nm cm4) ∧ w'.cell? ⟨ex, 1, none⟩ = some (.int .i64 q) ∧ w'.cell? ⟨ex, 2, none⟩ = some (.int .i64 bx) ∧ w'.cell? ⟨ex, 3, none⟩ = some (.int .i64 cy) ∧ w'.cell? ⟨ex, 4, none⟩ = some (.int .i64 lo) ∧ w'.cell? ⟨ex, 5, none⟩ = some (.int .i64 hi) ∧ w'.cell? ⟨ex, 6, none⟩ = some (.slice an4 nn cn4) ∧ w'.cell? ⟨ex, 7, none⟩ = some (.slice al4 nl cl4) ∧ w'.cell? ⟨w.heap.size, 0, none⟩ = some (.slice am nm cm) ∧ w'.cell? ⟨w.heap.size, 1, none⟩ = some (.int .i64 q) ∧ w'.cell? ⟨w.heap.size, 2, none⟩ = some (.int .i64 bx) ∧ w'.cell? ⟨w.heap.size, 3, none⟩ = some (.int .i64 cy) ∧ w'.cell? ⟨w.heap.size, 4, none⟩ = some (.int .i64 lo) ∧ w'.cell? ⟨w.heap.size, 5, none⟩ = some (.int .i64 hi) ∧ w'.cell? ⟨w.heap.size, 6, none⟩ = some (.slice an nn cn) ∧ w'.cell? ⟨w.heap.size, 7, none⟩ = some (.slice al nl cl))
      ((refine room16n KX_18 P0_15 ?_; repeat (first | exact Below.refl _ _ | refine below_drw ?_ | refine below_to ?_ (by assumption))))
      (first | (go_at_call 29; (with_reducible refine (HT.out _ ?_).mono ?_); (focus (repeat (first | exact b_16 | refine below_drw ?_ | refine below_to ?_ (by assumption)))); rintro e w8 ⟨am7, cm7, an7, cn7, al7, cl7, rfl, ho8, bl8⟩) | (go_at_call 31; (with_reducible refine (HE.out _ _ _ _ _ _ _ _ _ _ _ _ _ ?_ ?_).mono ?_); (focus ((refine OX_19.out.at.below ?_); repeat (first | exact Below.refl _ _ | refine below_drw ?_ | refine below_to ?_ (by assumption)))); (focus ((refine ho8.at.below ?_); repeat (first | exact Below.refl _ _ | refine below_drw ?_ | refine below_to ?_ (by assumption)))); rintro e w9 ⟨rfl, bl9⟩))
    all_goals
      go_wp2
      go_ret
      refine ⟨rfl, ?_⟩
      repeat (first | exact b_16 | refine below_drw ?_ | refine below_to ?_ (by assumption))
  · have HZ := Lib.hid (fun V => sz_room am nm cm q bx cy lo hi an nn cn al nl cl V h1 h2 h3 1048576 (by omega) (by omega) (-1) (by rw [if_neg hle]))
    clear hA h64 h1 h2 h3 hle
    go_enter Tryz.func9, Tryz.ntmps9
    have c0_0 := K0.c8_0
    have c0_1 := K0.c8_1
    have c0_2 := K0.c8_2
    have c0_3 := K0.c8_3
    have c0_4 := K0.c8_4
    have c0_5 := K0.c8_5
    have c0_6 := K0.c8_6
    have c0_7 := K0.c8_7
    go_wp2_with fail
    generalize (w.alloc (.cells #[.slice am nm cm, .int .i64 q, .int .i64 bx, .int .i64 cy, .int .i64 lo, .int .i64 hi, .slice an nn cn, .slice al nl cl] 61)) = V at *
    refine (HZ.out _).mono ?_
    rintro e w1 ⟨rfl, bl1⟩
    have b1 := below_to bV bl1
    go_wp2
    go_ret
    exact ⟨rfl, b1⟩
end Go.Proofs.YtdjjncofahnaaaaGreat
