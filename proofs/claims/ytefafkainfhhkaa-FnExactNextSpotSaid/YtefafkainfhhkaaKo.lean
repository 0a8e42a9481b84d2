/- NextSpot of the model, over the translation. -/
import Derived.Test.YtefafkainfhhkaaKn
namespace Go.Proofs.Ytefafkainfhhkaa
open Go.RowKit
open Geo (H3)

theorem ansS_scale {g : Nat} (hg : 0 < g) (x y d : Int) : ansS (g * x) (g * y) (g * d) = ansS x y d := by
  have hgi : (0 : Int) < g := by omega
  have h1 : hasS (g * x) (g * y) (g * d) = hasS x y d := by
    unfold hasS
    rw [gS_scale (hk := hgi), Int.mul_tdiv_mul_of_pos _ _ hgi, Int.mul_tdiv_mul_of_pos _ _ hgi, Int.mul_tdiv_mul_of_pos _ _ hgi]
    congr 1
    have : (1 ≤ (g : Int) * d) ↔ 1 ≤ d := by
      constructor
      · intro h
        rcases Int.lt_or_le 0 d with h2 | h2
        · omega
        · have h3 := Int.mul_le_mul_of_nonneg_left h2 (Int.le_of_lt hgi)
          rw [Int.mul_zero] at h3
          omega
      · intro h
        have := Int.mul_pos hgi (show 0 < d by omega)
        omega
    exact decide_eq_decide.2 this
  unfold ansS
  rw [h1, gS_scale (hk := hgi), Int.mul_tdiv_mul_of_pos _ _ hgi, Int.mul_tdiv_mul_of_pos _ _ hgi, Int.mul_tdiv_mul_of_pos _ _ hgi]
theorem gS_dvd (x y d : Int) : ((gS x y d : Nat) : Int) ∣ x ∧ ((gS x y d : Nat) : Int) ∣ y ∧ ((gS x y d : Nat) : Int) ∣ d := by
  have h1 : ((gS x y d : Nat) : Int) ∣ ((Int.gcd x y : Nat) : Int) := Int.gcd_dvd_left ..
  exact ⟨Int.dvd_trans h1 (Int.gcd_dvd_left ..), Int.dvd_trans h1 (Int.gcd_dvd_right ..), Int.gcd_dvd_right ..⟩
theorem gS_pos2 {x y d : Int} (h : 1 ≤ d) : 0 < gS x y d := Nat.pos_of_ne_zero fun e => by
  have := (Int.gcd_eq_zero_iff.1 e).2
  omega

set_option maxRecDepth 100000 in
set_option maxHeartbeats 6400000 in
theorem spec_ns (am : Option Addr) (nm cm : Nat) (zs : List Int) (q bx cy lo hi : Int) (an : Option Addr) (nn cn : Nat) (ps : List H3) (al : Option Addr) (nl cl : Nat) (qs : List H3) (sX sY sD uN uD tX tY tD : Int) (w : World) (hA : RAt w am nm zs an nn ps al nl qs) (h64 : R64 q bx cy lo hi ps qs) (hs : In64 ⟨sX, sY, sD⟩) (hu : (-9223372036854775808 ≤ uN ∧ uN ≤ 9223372036854775807) ∧ -9223372036854775808 ≤ uD ∧ uD ≤ 9223372036854775807) (ht : In64 ⟨tX, tY, tD⟩) (hle : nm + nn + nl ≤ 1048576) (hnl : RNil am nm cm an nn cn al nl cl) :
    Calls Try.prog 35 #[.agg #[.slice am nm cm, .int .i64 q, .int .i64 bx, .int .i64 cy, .int .i64 lo, .int .i64 hi, .slice an nn cn, .slice al nl cl], .agg #[.int .i64 sX, .int .i64 sY, .int .i64 sD], .agg #[.int .i64 uN, .int .i64 uD], .agg #[.int .i64 tX, .int .i64 tY, .int .i64 tD]] w fun e w' => e = .returned (nsV zs q bx cy lo hi ps qs sX sY sD uN uD tX tY tD) ∧ Below w.heap.size w w' := by
  have bV := (below_bx2 (below_bx2 (below_bx2 (below_bx2 (below_one w (.cells #[.slice am nm cm, .int .i64 q, .int .i64 bx, .int .i64 cy, .int .i64 lo, .int .i64 hi, .slice an nn cn, .slice al nl cl] 52)) (.cells #[.int .i64 sX, .int .i64 sY, .int .i64 sD] 60)) (.cells #[.int .i64 uN, .int .i64 uD] 27)) (.cells #[.int .i64 tX, .int .i64 tY, .int .i64 tD] 60)) (.cells #[.int .i64 0, .int .i64 0, .int .i64 0] 60))
  have K0 := (((((blk_new w #[.slice am nm cm, .int .i64 q, .int .i64 bx, .int .i64 cy, .int .i64 lo, .int .i64 hi, .slice an nn cn, .slice al nl cl] 52 (b := w.heap.size) (by simp)).to (below_one _ (.cells #[.int .i64 sX, .int .i64 sY, .int .i64 sD] 60))).to (below_one _ (.cells #[.int .i64 uN, .int .i64 uD] 27))).to (below_one _ (.cells #[.int .i64 tX, .int .i64 tY, .int .i64 tD] 60))).to (below_one _ (.cells #[.int .i64 0, .int .i64 0, .int .i64 0] 60)))
  have K1 := ((((blk_new (w.alloc (.cells #[.slice am nm cm, .int .i64 q, .int .i64 bx, .int .i64 cy, .int .i64 lo, .int .i64 hi, .slice an nn cn, .slice al nl cl] 52)) #[.int .i64 sX, .int .i64 sY, .int .i64 sD] 60 (b := w.heap.size + 1) (by simp)).to (below_one _ (.cells #[.int .i64 uN, .int .i64 uD] 27))).to (below_one _ (.cells #[.int .i64 tX, .int .i64 tY, .int .i64 tD] 60))).to (below_one _ (.cells #[.int .i64 0, .int .i64 0, .int .i64 0] 60)))
  have K2 := (((blk_new ((w.alloc (.cells #[.slice am nm cm, .int .i64 q, .int .i64 bx, .int .i64 cy, .int .i64 lo, .int .i64 hi, .slice an nn cn, .slice al nl cl] 52)).alloc (.cells #[.int .i64 sX, .int .i64 sY, .int .i64 sD] 60)) #[.int .i64 uN, .int .i64 uD] 27 (b := w.heap.size + 2) (by simp)).to (below_one _ (.cells #[.int .i64 tX, .int .i64 tY, .int .i64 tD] 60))).to (below_one _ (.cells #[.int .i64 0, .int .i64 0, .int .i64 0] 60)))
  have K3 := ((blk_new (((w.alloc (.cells #[.slice am nm cm, .int .i64 q, .int .i64 bx, .int .i64 cy, .int .i64 lo, .int .i64 hi, .slice an nn cn, .slice al nl cl] 52)).alloc (.cells #[.int .i64 sX, .int .i64 sY, .int .i64 sD] 60)).alloc (.cells #[.int .i64 uN, .int .i64 uD] 27)) #[.int .i64 tX, .int .i64 tY, .int .i64 tD] 60 (b := w.heap.size + 3) (by simp)).to (below_one _ (.cells #[.int .i64 0, .int .i64 0, .int .i64 0] 60)))
  have K4 := (blk_new ((((w.alloc (.cells #[.slice am nm cm, .int .i64 q, .int .i64 bx, .int .i64 cy, .int .i64 lo, .int .i64 hi, .slice an nn cn, .slice al nl cl] 52)).alloc (.cells #[.int .i64 sX, .int .i64 sY, .int .i64 sD] 60)).alloc (.cells #[.int .i64 uN, .int .i64 uD] 27)).alloc (.cells #[.int .i64 tX, .int .i64 tY, .int .i64 tD] 60)) #[.int .i64 0, .int .i64 0, .int .i64 0] 60 (b := w.heap.size + 4) (by simp))
  have HR := Lib.hid (fun V (h : Below w.heap.size w V) => spec_room am nm cm zs q bx cy lo hi an nn cn ps al nl cl qs V _ rfl (hA.below h) h64 hnl hle)
  have HKS := Lib.hid (fun V => spec_sok sX sY sD V hs.1.1 hs.1.2 hs.2.1.1 hs.2.1.2 hs.2.2.1 hs.2.2.2)
  have HKT := Lib.hid (fun V => spec_sok tX tY tD V ht.1.1 ht.1.2 ht.2.1.1 ht.2.1.2 ht.2.2.1 ht.2.2.2)
  have HKU := Lib.hid (fun V => spec_ok uN uD V hu.1.1 hu.1.2 hu.2.1 hu.2.2)
  have HZ := Lib.hid hA
  have HD := Lib.hid (show nsC zs q bx cy lo hi ps qs sX sY sD uN uD tX tY tD = (rmB zs q bx cy lo hi ps qs && okS sX sY sD && okR uN uD && okS tX tY tD && decide (sD ≤ 100000) && decide (tD ≤ 1000) && decide (uD ≤ 1000) && inB uN (-1000 * uD) (1000 * uD)) from rfl)
  clear hA h64 hs hu ht
  have c00 := K0.c8_0
  have c01 := K0.c8_1
  have c02 := K0.c8_2
  have c03 := K0.c8_3
  have c04 := K0.c8_4
  have c05 := K0.c8_5
  have c06 := K0.c8_6
  have c07 := K0.c8_7
  have c10 := K1.cell0 (i := 0) (v := .int .i64 sX) rfl
  have c11 := K1.cell0 (i := 1) (v := .int .i64 sY) rfl
  have c12 := K1.cell0 (i := 2) (v := .int .i64 sD) rfl
  have c20 := K2.cell0 (i := 0) (v := .int .i64 uN) rfl
  have c21 := K2.cell0 (i := 1) (v := .int .i64 uD) rfl
  have c30 := K3.cell0 (i := 0) (v := .int .i64 tX) rfl
  have c31 := K3.cell0 (i := 1) (v := .int .i64 tY) rfl
  have c32 := K3.cell0 (i := 2) (v := .int .i64 tD) rfl
  go_enter Try.func35, Try.ntmps35
  go_wp2_with fail
  generalize (((((w.alloc (.cells #[.slice am nm cm, .int .i64 q, .int .i64 bx, .int .i64 cy, .int .i64 lo, .int .i64 hi, .slice an nn cn, .slice al nl cl] 52)).alloc (.cells #[.int .i64 sX, .int .i64 sY, .int .i64 sD] 60)).alloc (.cells #[.int .i64 uN, .int .i64 uD] 27)).alloc (.cells #[.int .i64 tX, .int .i64 tY, .int .i64 tD] 60)).alloc (.cells #[.int .i64 0, .int .i64 0, .int .i64 0] 60)) = V at *
  refine (HR.out _ bV).mono ?_
  rintro e v1 ⟨rfl, bl1⟩
  clear c00 c01 c02 c03 c04 c05 c06 c07 c10 c11 c12 c20 c21 c30 c31 c32
  have b1 := below_to bV bl1
  have L0 := K0.to bl1
  have L1 := K1.to bl1
  have L2 := K2.to bl1
  have L3 := K3.to bl1
  have L4 := K4.to bl1
  clear bl1 bV K0 K1 K2 K3 K4
  cases h1 : rmB zs q bx cy lo hi ps qs with
  | false =>
    have HN := Lib.hid (ns_no (sX := sX) (sY := sY) (tX := tX) (tY := tY) (show nsC zs q bx cy lo hi ps qs sX sY sD uN uD tX tY tD = false by rw [HD.out]; simp [h1]))
    have c00 := L0.c8_0
    have c01 := L0.c8_1
    have c02 := L0.c8_2
    have c03 := L0.c8_3
    have c04 := L0.c8_4
    have c05 := L0.c8_5
    have c06 := L0.c8_6
    have c07 := L0.c8_7
    have c10 := L1.cell0 (i := 0) (v := .int .i64 sX) rfl
    have c11 := L1.cell0 (i := 1) (v := .int .i64 sY) rfl
    have c12 := L1.cell0 (i := 2) (v := .int .i64 sD) rfl
    have c20 := L2.cell0 (i := 0) (v := .int .i64 uN) rfl
    have c21 := L2.cell0 (i := 1) (v := .int .i64 uD) rfl
    have c30 := L3.cell0 (i := 0) (v := .int .i64 tX) rfl
    have c31 := L3.cell0 (i := 1) (v := .int .i64 tY) rfl
    have c32 := L3.cell0 (i := 2) (v := .int .i64 tD) rfl
    clear h1
    obtain ⟨t1, t2, t3, f1, f2, f3⟩ := has3_blk L4
    go_wp2_with fail
    exact bodyPost_ret (v := zeroS) (by simp [results, Try.results35, go_sem, t1, t2, t3, zeroS]) rfl ⟨by rw [HN.out], ((b1.setCell (p := ⟨w.heap.size + 4, 0, none⟩) (by simp) _).setCell (p := ⟨w.heap.size + 4, 1, none⟩) (by simp) _).setCell (p := ⟨w.heap.size + 4, 2, none⟩) (by simp) _⟩
  | true =>
    have c00 := L0.c8_0
    have c01 := L0.c8_1
    have c02 := L0.c8_2
    have c03 := L0.c8_3
    have c04 := L0.c8_4
    have c05 := L0.c8_5
    have c06 := L0.c8_6
    have c07 := L0.c8_7
    have c10 := L1.cell0 (i := 0) (v := .int .i64 sX) rfl
    have c11 := L1.cell0 (i := 1) (v := .int .i64 sY) rfl
    have c12 := L1.cell0 (i := 2) (v := .int .i64 sD) rfl
    have c20 := L2.cell0 (i := 0) (v := .int .i64 uN) rfl
    have c21 := L2.cell0 (i := 1) (v := .int .i64 uD) rfl
    have c30 := L3.cell0 (i := 0) (v := .int .i64 tX) rfl
    have c31 := L3.cell0 (i := 1) (v := .int .i64 tY) rfl
    have c32 := L3.cell0 (i := 2) (v := .int .i64 tD) rfl
    go_wp2_with fail
    refine (HKS.out _).mono ?_
    rintro e v2 ⟨rfl, bl2⟩
    clear c00 c01 c02 c03 c04 c05 c06 c07 c10 c11 c12 c20 c21 c30 c31 c32
    have b2 := below_to b1 bl2
    have K0 := L0.to bl2
    have K1 := L1.to bl2
    have K2 := L2.to bl2
    have K3 := L3.to bl2
    have K4 := L4.to bl2
    clear bl2 b1 L0 L1 L2 L3 L4
    cases h2 : okS sX sY sD with
    | false =>
      have HN := Lib.hid (ns_no (sX := sX) (sY := sY) (tX := tX) (tY := tY) (show nsC zs q bx cy lo hi ps qs sX sY sD uN uD tX tY tD = false by rw [HD.out]; simp [h2]))
      have c00 := K0.c8_0
      have c01 := K0.c8_1
      have c02 := K0.c8_2
      have c03 := K0.c8_3
      have c04 := K0.c8_4
      have c05 := K0.c8_5
      have c06 := K0.c8_6
      have c07 := K0.c8_7
      have c10 := K1.cell0 (i := 0) (v := .int .i64 sX) rfl
      have c11 := K1.cell0 (i := 1) (v := .int .i64 sY) rfl
      have c12 := K1.cell0 (i := 2) (v := .int .i64 sD) rfl
      have c20 := K2.cell0 (i := 0) (v := .int .i64 uN) rfl
      have c21 := K2.cell0 (i := 1) (v := .int .i64 uD) rfl
      have c30 := K3.cell0 (i := 0) (v := .int .i64 tX) rfl
      have c31 := K3.cell0 (i := 1) (v := .int .i64 tY) rfl
      have c32 := K3.cell0 (i := 2) (v := .int .i64 tD) rfl
      clear h2
      obtain ⟨t1, t2, t3, f1, f2, f3⟩ := has3_blk K4
      go_wp2_with fail
      exact bodyPost_ret (v := zeroS) (by simp [results, Try.results35, go_sem, t1, t2, t3, zeroS]) rfl ⟨by rw [HN.out], ((b2.setCell (p := ⟨w.heap.size + 4, 0, none⟩) (by simp) _).setCell (p := ⟨w.heap.size + 4, 1, none⟩) (by simp) _).setCell (p := ⟨w.heap.size + 4, 2, none⟩) (by simp) _⟩
    | true =>
      have c00 := K0.c8_0
      have c01 := K0.c8_1
      have c02 := K0.c8_2
      have c03 := K0.c8_3
      have c04 := K0.c8_4
      have c05 := K0.c8_5
      have c06 := K0.c8_6
      have c07 := K0.c8_7
      have c10 := K1.cell0 (i := 0) (v := .int .i64 sX) rfl
      have c11 := K1.cell0 (i := 1) (v := .int .i64 sY) rfl
      have c12 := K1.cell0 (i := 2) (v := .int .i64 sD) rfl
      have c20 := K2.cell0 (i := 0) (v := .int .i64 uN) rfl
      have c21 := K2.cell0 (i := 1) (v := .int .i64 uD) rfl
      have c30 := K3.cell0 (i := 0) (v := .int .i64 tX) rfl
      have c31 := K3.cell0 (i := 1) (v := .int .i64 tY) rfl
      have c32 := K3.cell0 (i := 2) (v := .int .i64 tD) rfl
      go_wp2_with fail
      refine (HKU.out _).mono ?_
      rintro e v3 ⟨rfl, bl3⟩
      clear c00 c01 c02 c03 c04 c05 c06 c07 c10 c11 c12 c20 c21 c30 c31 c32
      have b3 := below_to b2 bl3
      have L0 := K0.to bl3
      have L1 := K1.to bl3
      have L2 := K2.to bl3
      have L3 := K3.to bl3
      have L4 := K4.to bl3
      clear bl3 b2 K0 K1 K2 K3 K4
      cases h3 : okR uN uD with
      | false =>
        have HN := Lib.hid (ns_no (sX := sX) (sY := sY) (tX := tX) (tY := tY) (show nsC zs q bx cy lo hi ps qs sX sY sD uN uD tX tY tD = false by rw [HD.out]; simp [h3]))
        have c00 := L0.c8_0
        have c01 := L0.c8_1
        have c02 := L0.c8_2
        have c03 := L0.c8_3
        have c04 := L0.c8_4
        have c05 := L0.c8_5
        have c06 := L0.c8_6
        have c07 := L0.c8_7
        have c10 := L1.cell0 (i := 0) (v := .int .i64 sX) rfl
        have c11 := L1.cell0 (i := 1) (v := .int .i64 sY) rfl
        have c12 := L1.cell0 (i := 2) (v := .int .i64 sD) rfl
        have c20 := L2.cell0 (i := 0) (v := .int .i64 uN) rfl
        have c21 := L2.cell0 (i := 1) (v := .int .i64 uD) rfl
        have c30 := L3.cell0 (i := 0) (v := .int .i64 tX) rfl
        have c31 := L3.cell0 (i := 1) (v := .int .i64 tY) rfl
        have c32 := L3.cell0 (i := 2) (v := .int .i64 tD) rfl
        clear h3
        obtain ⟨t1, t2, t3, f1, f2, f3⟩ := has3_blk L4
        go_wp2_with fail
        exact bodyPost_ret (v := zeroS) (by simp [results, Try.results35, go_sem, t1, t2, t3, zeroS]) rfl ⟨by rw [HN.out], ((b3.setCell (p := ⟨w.heap.size + 4, 0, none⟩) (by simp) _).setCell (p := ⟨w.heap.size + 4, 1, none⟩) (by simp) _).setCell (p := ⟨w.heap.size + 4, 2, none⟩) (by simp) _⟩
      | true =>
        have c00 := L0.c8_0
        have c01 := L0.c8_1
        have c02 := L0.c8_2
        have c03 := L0.c8_3
        have c04 := L0.c8_4
        have c05 := L0.c8_5
        have c06 := L0.c8_6
        have c07 := L0.c8_7
        have c10 := L1.cell0 (i := 0) (v := .int .i64 sX) rfl
        have c11 := L1.cell0 (i := 1) (v := .int .i64 sY) rfl
        have c12 := L1.cell0 (i := 2) (v := .int .i64 sD) rfl
        have c20 := L2.cell0 (i := 0) (v := .int .i64 uN) rfl
        have c21 := L2.cell0 (i := 1) (v := .int .i64 uD) rfl
        have c30 := L3.cell0 (i := 0) (v := .int .i64 tX) rfl
        have c31 := L3.cell0 (i := 1) (v := .int .i64 tY) rfl
        have c32 := L3.cell0 (i := 2) (v := .int .i64 tD) rfl
        go_wp2_with fail
        refine (HKT.out _).mono ?_
        rintro e v4 ⟨rfl, bl4⟩
        clear c00 c01 c02 c03 c04 c05 c06 c07 c10 c11 c12 c20 c21 c30 c31 c32
        have b4 := below_to b3 bl4
        have K0 := L0.to bl4
        have K1 := L1.to bl4
        have K2 := L2.to bl4
        have K3 := L3.to bl4
        have K4 := L4.to bl4
        clear bl4 b3 L0 L1 L2 L3 L4
        cases h4 : okS tX tY tD with
        | false =>
          have HN := Lib.hid (ns_no (sX := sX) (sY := sY) (tX := tX) (tY := tY) (show nsC zs q bx cy lo hi ps qs sX sY sD uN uD tX tY tD = false by rw [HD.out]; simp [h4]))
          have c00 := K0.c8_0
          have c01 := K0.c8_1
          have c02 := K0.c8_2
          have c03 := K0.c8_3
          have c04 := K0.c8_4
          have c05 := K0.c8_5
          have c06 := K0.c8_6
          have c07 := K0.c8_7
          have c10 := K1.cell0 (i := 0) (v := .int .i64 sX) rfl
          have c11 := K1.cell0 (i := 1) (v := .int .i64 sY) rfl
          have c12 := K1.cell0 (i := 2) (v := .int .i64 sD) rfl
          have c20 := K2.cell0 (i := 0) (v := .int .i64 uN) rfl
          have c21 := K2.cell0 (i := 1) (v := .int .i64 uD) rfl
          have c30 := K3.cell0 (i := 0) (v := .int .i64 tX) rfl
          have c31 := K3.cell0 (i := 1) (v := .int .i64 tY) rfl
          have c32 := K3.cell0 (i := 2) (v := .int .i64 tD) rfl
          clear h4
          obtain ⟨t1, t2, t3, f1, f2, f3⟩ := has3_blk K4
          go_wp2_with fail
          exact bodyPost_ret (v := zeroS) (by simp [results, Try.results35, go_sem, t1, t2, t3, zeroS]) rfl ⟨by rw [HN.out], ((b4.setCell (p := ⟨w.heap.size + 4, 0, none⟩) (by simp) _).setCell (p := ⟨w.heap.size + 4, 1, none⟩) (by simp) _).setCell (p := ⟨w.heap.size + 4, 2, none⟩) (by simp) _⟩
        | true =>
          have c00 := K0.c8_0
          have c01 := K0.c8_1
          have c02 := K0.c8_2
          have c03 := K0.c8_3
          have c04 := K0.c8_4
          have c05 := K0.c8_5
          have c06 := K0.c8_6
          have c07 := K0.c8_7
          have c10 := K1.cell0 (i := 0) (v := .int .i64 sX) rfl
          have c11 := K1.cell0 (i := 1) (v := .int .i64 sY) rfl
          have c12 := K1.cell0 (i := 2) (v := .int .i64 sD) rfl
          have c20 := K2.cell0 (i := 0) (v := .int .i64 uN) rfl
          have c21 := K2.cell0 (i := 1) (v := .int .i64 uD) rfl
          have c30 := K3.cell0 (i := 0) (v := .int .i64 tX) rfl
          have c31 := K3.cell0 (i := 1) (v := .int .i64 tY) rfl
          have c32 := K3.cell0 (i := 2) (v := .int .i64 tD) rfl
          by_cases d1 : sD ≤ 100000
          rotate_left
          · have HN := Lib.hid (ns_no (sX := sX) (sY := sY) (tX := tX) (tY := tY) (show nsC zs q bx cy lo hi ps qs sX sY sD uN uD tX tY tD = false by rw [HD.out, decide_eq_false d1]; simp))
            have hd : decide (100000 < sD) = true := decide_eq_true (by omega)
            clear d1
            obtain ⟨t1, t2, t3, f1, f2, f3⟩ := has3_blk K4
            go_wp2_with fail
            exact bodyPost_ret (v := zeroS) (by simp [results, Try.results35, go_sem, t1, t2, t3, zeroS]) rfl ⟨by rw [HN.out], ((b4.setCell (p := ⟨w.heap.size + 4, 0, none⟩) (by simp) _).setCell (p := ⟨w.heap.size + 4, 1, none⟩) (by simp) _).setCell (p := ⟨w.heap.size + 4, 2, none⟩) (by simp) _⟩
          have hd1 : decide (100000 < sD) = false := decide_eq_false (by omega)
          by_cases d2 : tD ≤ 1000
          rotate_left
          · have HN := Lib.hid (ns_no (sX := sX) (sY := sY) (tX := tX) (tY := tY) (show nsC zs q bx cy lo hi ps qs sX sY sD uN uD tX tY tD = false by rw [HD.out, decide_eq_false d2]; simp))
            have hd : decide (1000 < tD) = true := decide_eq_true (by omega)
            clear d2
            obtain ⟨t1, t2, t3, f1, f2, f3⟩ := has3_blk K4
            go_wp2_with fail
            exact bodyPost_ret (v := zeroS) (by simp [results, Try.results35, go_sem, t1, t2, t3, zeroS]) rfl ⟨by rw [HN.out], ((b4.setCell (p := ⟨w.heap.size + 4, 0, none⟩) (by simp) _).setCell (p := ⟨w.heap.size + 4, 1, none⟩) (by simp) _).setCell (p := ⟨w.heap.size + 4, 2, none⟩) (by simp) _⟩
          have hd2 : decide (1000 < tD) = false := decide_eq_false (by omega)
          by_cases d3 : uD ≤ 1000
          rotate_left
          · have HN := Lib.hid (ns_no (sX := sX) (sY := sY) (tX := tX) (tY := tY) (show nsC zs q bx cy lo hi ps qs sX sY sD uN uD tX tY tD = false by rw [HD.out, decide_eq_false d3]; simp))
            have hd : decide (1000 < uD) = true := decide_eq_true (by omega)
            clear d3
            obtain ⟨t1, t2, t3, f1, f2, f3⟩ := has3_blk K4
            go_wp2_with fail
            exact bodyPost_ret (v := zeroS) (by simp [results, Try.results35, go_sem, t1, t2, t3, zeroS]) rfl ⟨by rw [HN.out], ((b4.setCell (p := ⟨w.heap.size + 4, 0, none⟩) (by simp) _).setCell (p := ⟨w.heap.size + 4, 1, none⟩) (by simp) _).setCell (p := ⟨w.heap.size + 4, 2, none⟩) (by simp) _⟩
          have hd3 : decide (1000 < uD) = false := decide_eq_false (by omega)
          obtain ⟨o1, _, _, _, _⟩ := (okR_iff _ _).1 h3
          have HI := Lib.hid (fun V => in_spec_is uN (-1000 * uD) (1000 * uD) V _ rfl)
          have v1' : IntKind.i64.wrap (-1000 * uD) = -1000 * uD := IntWalk.i64_in _ (by omega)
          have v2' : IntKind.i64.wrap (1000 * uD) = 1000 * uD := IntWalk.i64_in _ (by omega)
          go_wp2_with fail
          refine (HI.out _).mono ?_
          rintro e v5 ⟨rfl, hv5⟩
          subst hv5
          clear v1' v2' HI hd1 hd2 hd3
          cases h5 : inB uN (-1000 * uD) (1000 * uD) with
          | false =>
            have HN := Lib.hid (ns_no (sX := sX) (sY := sY) (tX := tX) (tY := tY) (show nsC zs q bx cy lo hi ps qs sX sY sD uN uD tX tY tD = false by rw [HD.out, h5]; simp))
            clear h5
            obtain ⟨t1, t2, t3, f1, f2, f3⟩ := has3_blk K4
            go_wp2_with fail
            exact bodyPost_ret (v := zeroS) (by simp [results, Try.results35, go_sem, t1, t2, t3, zeroS]) rfl ⟨by rw [HN.out], ((b4.setCell (p := ⟨w.heap.size + 4, 0, none⟩) (by simp) _).setCell (p := ⟨w.heap.size + 4, 1, none⟩) (by simp) _).setCell (p := ⟨w.heap.size + 4, 2, none⟩) (by simp) _⟩
          | true =>
            have hC : nsC zs q bx cy lo hi ps qs sX sY sD uN uD tX tY tD = true := by
              rw [HD.out, h1, h2, h3, h4, decide_eq_true d1, decide_eq_true d2, decide_eq_true d3, h5]
              rfl
            have HY := Lib.hid (ns_yes hC)
            obtain ⟨_, z0, z1, z2, z3, rfl, R⟩ := ns_rng hC
            obtain ⟨rfl, g, o, rfl, k0, k1, k2, k3⟩ := zat HZ.out.lm HZ.out.hm
            replace k0 := cell_to k0 b4
            replace k1 := cell_to k1 b4
            replace k2 := cell_to k2 b4
            replace k3 := cell_to k3 b4
            clear h1 h2 h3 h4 h5 d1 d2 d3 hC HD HKS HKT HKU HR HZ o1
            have eB1 := mul_box (a := q) (b := sD) (M := 20) (N := 100000) (by have := R.q; omega) (by have := R.q; omega) (by have := R.sD; omega) (by have := R.sD; omega)
            have pB1' : 1 ≤ q * sD := by have := Int.mul_le_mul R.q.1 R.sD.1 (by omega) (by have := R.q; omega); omega
            have e0 := mul_box (a := z0) (b := sX) (M := 20) (N := 100000000) R.z0.1 R.z0.2 R.sX.1 R.sX.2
            have e1 := mul_box (a := z1) (b := sY) (M := 20) (N := 100000000) R.z1.1 R.z1.2 R.sY.1 R.sY.2
            have e2 := mul_box (a := z2) (b := sX) (M := 20) (N := 100000000) R.z2.1 R.z2.2 R.sX.1 R.sX.2
            have e3 := mul_box (a := z3) (b := sY) (M := 20) (N := 100000000) R.z3.1 R.z3.2 R.sY.1 R.sY.2
            have e4 := mul_box (a := bx) (b := uN) (M := 100) (N := 1000000) R.bx.1 R.bx.2 R.uN.1 R.uN.2
            have e5 := mul_box (a := cy) (b := uN) (M := 100) (N := 1000000) R.cy.1 R.cy.2 R.uN.1 R.uN.2
            have HA := Lib.hid (show nsA [z0, z1, z2, z3] q bx cy sX sY sD uN uD tX tY tD = ansS ((z0 * sX + z1 * sY) * (uD * tD) + bx * uN * (q * sD * tD) + tX * (q * sD * uD)) ((z2 * sX + z3 * sY) * (uD * tD) + cy * uN * (q * sD * tD) + tY * (q * sD * uD)) (q * sD * uD * tD) from rfl)
            generalize nsA [z0, z1, z2, z3] q bx cy sX sY sD uN uD tX tY tD = ans at *
            generalize gB1 : q * sD = pB1 at *
            generalize g0 : z0 * sX = p0 at *
            generalize g1 : z1 * sY = p1 at *
            generalize g2 : z2 * sX = p2 at *
            generalize g3 : z3 * sY = p3 at *
            generalize g4 : bx * uN = p4 at *
            generalize g5 : cy * uN = p5 at *
            have w01 : IntKind.i64.wrap (p0 + p1) = p0 + p1 := IntWalk.i64_in _ (by omega)
            have w23 : IntKind.i64.wrap (p2 + p3) = p2 + p3 := IntWalk.i64_in _ (by omega)
            generalize g01 : p0 + p1 = p01 at *
            generalize g23 : p2 + p3 = p23 at *
            have e6 := mul_box (a := p01) (b := tD) (M := 4000000000) (N := 1000) (by omega) (by omega) (by have := R.tD; omega) (by have := R.tD; omega)
            have e7 := mul_box (a := p23) (b := tD) (M := 4000000000) (N := 1000) (by omega) (by omega) (by have := R.tD; omega) (by have := R.tD; omega)
            have e8 := mul_box (a := tX) (b := pB1) (M := 1000000) (N := 2000000) R.tX.1 R.tX.2 (by omega) (by omega)
            have e9 := mul_box (a := tY) (b := pB1) (M := 1000000) (N := 2000000) R.tY.1 R.tY.2 (by omega) (by omega)
            have eB := mul_box (a := pB1) (b := tD) (M := 2000000) (N := 1000) (by omega) (by omega) (by have := R.tD; omega) (by have := R.tD; omega)
            have pB' : 1 ≤ pB1 * tD := by have := Int.mul_le_mul pB1' R.tD.1 (by omega) (by omega); omega
            have HX := Lib.hid (show p01 * (uD * tD) + p4 * (pB1 * tD) + tX * (pB1 * uD) = (p01 * tD + tX * pB1) * uD + p4 * (pB1 * tD) by grind)
            have HYY := Lib.hid (show p23 * (uD * tD) + p5 * (pB1 * tD) + tY * (pB1 * uD) = (p23 * tD + tY * pB1) * uD + p5 * (pB1 * tD) by grind)
            have HDD := Lib.hid (show pB1 * uD * tD = pB1 * tD * uD by grind)
            rw [HX.out, HYY.out, HDD.out] at HA
            generalize g6 : p01 * tD = p6 at *
            generalize g7 : p23 * tD = p7 at *
            generalize g8 : tX * pB1 = p8 at *
            generalize g9 : tY * pB1 = p9 at *
            generalize gB : pB1 * tD = d at *
            have w68 : IntKind.i64.wrap (p6 + p8) = p6 + p8 := IntWalk.i64_in _ (by omega)
            have w79 : IntKind.i64.wrap (p7 + p9) = p7 + p9 := IntWalk.i64_in _ (by omega)
            generalize g68 : p6 + p8 = x at *
            generalize g79 : p7 + p9 = y at *
            have hgp := gS_pos2 (x := x) (y := y) pB'
            obtain ⟨dx, dy, dd⟩ := gS_dvd x y d
            have HG1 := Lib.hid (fun V => spec_gcd x y V (by omega) (by omega) (by omega) (by omega))
            have hgl : (Int.gcd x y : Int) ≤ 6000000000000 := gcd_le_max x y 6000000000000 (by omega) (by omega) (by omega) (by omega)
            have HG2 := Lib.hid (fun V => spec_gcd (Int.gcd x y) d V (by omega) (by omega) (by omega) (by omega))
            rw [gcdR_of x y (by omega) (by omega)] at HG1
            rw [gcdR_of (Int.gcd x y) d (by omega) (by omega), show Int.gcd (Int.gcd x y) d = gS x y d from rfl] at HG2
            generalize gS x y d = k at *
            generalize (Int.gcd x y : Int) = k1' at *
            obtain ⟨t1, t2⟩ := td_in (g := k) (x := x) (M := 6000000000000) (by omega) (by omega)
            obtain ⟨t3, t4⟩ := td_in (g := k) (x := y) (M := 6000000000000) (by omega) (by omega)
            obtain ⟨t5, t6⟩ := td_in (g := k) (x := d) (M := 2000000000) (by omega) (by omega)
            have mx := Int.mul_tdiv_cancel' dx
            have my := Int.mul_tdiv_cancel' dy
            have md := Int.mul_tdiv_cancel' dd
            generalize gx : x.tdiv (k : Int) = x' at *
            generalize gy : y.tdiv (k : Int) = y' at *
            generalize gd : d.tdiv (k : Int) = d' at *
            have HSC := Lib.hid (show ans = ansS (x' * uD + p4 * d') (y' * uD + p5 * d') (d' * uD) by
              rw [HA.out, ← ansS_scale hgp (x' * uD + p4 * d')]
              congr 1
              · rw [← mx, ← md]; grind
              · rw [← my, ← md]; grind
              · rw [← md]; grind)
            have f1 := mul_box (a := x') (b := uD) (M := 6000000000000) (N := 1000) (by omega) (by omega) (by have := R.uD; omega) (by have := R.uD; omega)
            have f2 := mul_box (a := y') (b := uD) (M := 6000000000000) (N := 1000) (by omega) (by omega) (by have := R.uD; omega) (by have := R.uD; omega)
            have f3 := mul_box (a := p4) (b := d') (M := 100000000) (N := 2000000000) (by omega) (by omega) (by omega) (by omega)
            have f4 := mul_box (a := p5) (b := d') (M := 100000000) (N := 2000000000) (by omega) (by omega) (by omega) (by omega)
            have f5 := mul_box (a := d') (b := uD) (M := 2000000000) (N := 1000) (by omega) (by omega) (by have := R.uD; omega) (by have := R.uD; omega)
            generalize gf1 : x' * uD = q1 at *
            generalize gf2 : y' * uD = q2 at *
            generalize gf3 : p4 * d' = q3 at *
            generalize gf4 : p5 * d' = q4 at *
            generalize gf5 : d' * uD = q5 at *
            have HS := Lib.hid (fun V => spec_sof (q1 + q3) (q2 + q4) q5 V (by omega) (by omega) (by omega) (by omega) (by omega) (by omega))
            obtain ⟨X, Y, D, B, hans⟩ := ansS_ex (q1 + q3) (q2 + q4) q5
            rw [← HSC.out] at hans HS
            subst hans
            have nz1 : ¬ k = 0 := by omega
            have nz2 : ¬ (k : Int) = 0 := by omega
            have v_pB1 : IntKind.i64.wrap pB1 = pB1 := IntWalk.i64_in _ (by omega)
            have v_p0 : IntKind.i64.wrap p0 = p0 := IntWalk.i64_in _ (by omega)
            have v_p1 : IntKind.i64.wrap p1 = p1 := IntWalk.i64_in _ (by omega)
            have v_p2 : IntKind.i64.wrap p2 = p2 := IntWalk.i64_in _ (by omega)
            have v_p3 : IntKind.i64.wrap p3 = p3 := IntWalk.i64_in _ (by omega)
            have v_p4 : IntKind.i64.wrap p4 = p4 := IntWalk.i64_in _ (by omega)
            have v_p5 : IntKind.i64.wrap p5 = p5 := IntWalk.i64_in _ (by omega)
            have v_d : IntKind.i64.wrap d = d := IntWalk.i64_in _ (by omega)
            have v_p6 : IntKind.i64.wrap p6 = p6 := IntWalk.i64_in _ (by omega)
            have v_p7 : IntKind.i64.wrap p7 = p7 := IntWalk.i64_in _ (by omega)
            have v_p8 : IntKind.i64.wrap p8 = p8 := IntWalk.i64_in _ (by omega)
            have v_p9 : IntKind.i64.wrap p9 = p9 := IntWalk.i64_in _ (by omega)
            have v_x_ : IntKind.i64.wrap x' = x' := IntWalk.i64_in _ (by omega)
            have v_y_ : IntKind.i64.wrap y' = y' := IntWalk.i64_in _ (by omega)
            have v_d_ : IntKind.i64.wrap d' = d' := IntWalk.i64_in _ (by omega)
            have v_q1 : IntKind.i64.wrap q1 = q1 := IntWalk.i64_in _ (by omega)
            have v_q2 : IntKind.i64.wrap q2 = q2 := IntWalk.i64_in _ (by omega)
            have v_q3 : IntKind.i64.wrap q3 = q3 := IntWalk.i64_in _ (by omega)
            have v_q4 : IntKind.i64.wrap q4 = q4 := IntWalk.i64_in _ (by omega)
            have v_q5 : IntKind.i64.wrap q5 = q5 := IntWalk.i64_in _ (by omega)
            have s1 : IntKind.i64.wrap (q1 + q3) = q1 + q3 := IntWalk.i64_in _ (by omega)
            have s2 : IntKind.i64.wrap (q2 + q4) = q2 + q4 := IntWalk.i64_in _ (by omega)
            clear e0 e1 e2 e3 e4 e5 e6 e7 e8 e9 eB eB1 pB1' pB' f1 f2 f3 f4 f5 t1 t2 t3 t4 t5 t6 mx my md dx dy dd hgp hgl HA HX HYY HDD HSC R
            go_wp2
            go_quiet (fail)
            go_wp2
            go_quiet (fail)
            go_wp2_with fail
            refine (HG1.out _).mono ?_
            rintro e v6 ⟨rfl, n6, rfl⟩
            go_wp2_with fail
            refine (HG2.out _).mono ?_
            rintro e v7 ⟨rfl, n7, rfl⟩
            go_wp2_with fail
            refine (HS.out _).mono ?_
            rintro e v8 ⟨rfl, bl8⟩
            have bl9 : Below v5.heap.size v5 v8 := by
              first
                | exact below_to (below_drewN v5 _) bl8
                | exact below_to (below_drew (below_drewN v5 _) _) bl8
                | exact below_to (below_drew (below_drew (below_drewN v5 _) _) _) bl8
            have b9 := below_to b4 bl9
            obtain ⟨s1, s2, s3, h1, h2, h3⟩ := has3_to bl9 (has3_blk K4)
            go_wp2_with fail
            exact bodyPost_ret (v := .tuple #[.agg #[.int .i64 X, .int .i64 Y, .int .i64 D], .bool B]) (by simp [results, Try.results35, go_sem, s1, s2, s3]) rfl ⟨by rw [HY.out], ((b9.setCell (p := ⟨w.heap.size + 4, 0, none⟩) (by simp) _).setCell (p := ⟨w.heap.size + 4, 1, none⟩) (by simp) _).setCell (p := ⟨w.heap.size + 4, 2, none⟩) (by simp) _⟩
end Go.Proofs.Ytefafkainfhhkaa
