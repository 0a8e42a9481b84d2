/- The walk of the law of CentreInput. -/
import Derived.Test.YtefafkainfhhkaaKe
import Derived.Test.YtefafkainfhhkaaKl
namespace Go.Proofs.Ytefafkainfhhkaa
open Go.RowKit
open Geo (H3)

theorem eqr_room (n d : Int) (w : World) :
    Calls Try.prog 17 #[.agg #[.int .i64 n, .int .i64 d], .agg #[.int .i64 n, .int .i64 d]] w fun e w' => e = .returned (.bool true) ∧ Below w.heap.size w w' := by
  go_enter Try.func17, Try.ntmps17
  go_wp2
  go_ret
  exact ⟨rfl, below_bx2 (below_one _ _) _⟩
set_option maxRecDepth 100000 in
set_option maxHeartbeats 6400000 in
theorem law_cen (am : Option Addr) (nm cm : Nat) (zs : List Int) (q bx cy lo hi : Int) (an : Option Addr) (nn cn : Nat) (ps : List H3) (al : Option Addr) (nl cl : Nat) (qs : List H3) (w : World) (h64 : R64 q bx cy lo hi ps qs) (h1 : nm ≤ maxLen) (h2 : nn ≤ maxLen) (h3 : nl ≤ maxLen) (hA : RAt w am nm zs an nn ps al nl qs) :
    Calls Try.prog 9 #[.agg #[.slice am nm cm, .int .i64 q, .int .i64 bx, .int .i64 cy, .int .i64 lo, .int .i64 hi, .slice an nn cn, .slice al nl cl]] w fun e w' => e = .returned (.bool true) ∧ Below w.heap.size w w' := by
  have bV := below_one w (.cells #[.slice am nm cm, .int .i64 q, .int .i64 bx, .int .i64 cy, .int .i64 lo, .int .i64 hi, .slice an nn cn, .slice al nl cl] 48)
  have K0 := blk_new w #[.slice am nm cm, .int .i64 q, .int .i64 bx, .int .i64 cy, .int .i64 lo, .int .i64 hi, .slice an nn cn, .slice al nl cl] 48 rfl
  by_cases hle : (nm : Int) + nn + nl ≤ 1048576
  · have HZ := Lib.hid (fun V => sz_room am nm cm q bx cy lo hi an nn cn al nl cl V h1 h2 h3 1048576 (by omega) (by omega) (1048576 - nm - nn - nl) (by rw [if_pos hle]))
    have HT := Lib.hid (fun V (h : Below w.heap.size w V) => to_room am nm cm zs q bx cy lo hi an nn cn ps al nl cl qs V (hA.below h) (by omega))
    have HE := Lib.hid (fun V am1 cm1 an1 cn1 al1 cl1 am2 cm2 an2 cn2 al2 cl2 (k1 : RAt V am1 nm zs an1 nn ps al1 nl qs) (k2 : RAt V am2 nm zs an2 nn ps al2 nl qs) => eq_room am1 nm cm1 zs q bx cy lo hi an1 nn cn1 ps al1 nl cl1 qs am2 cm2 an2 cn2 al2 cl2 V k1 k2 (by omega))
    have HS := Lib.hid (fun V am1 cm1 an1 cn1 al1 cl1 (k0 : RNil am1 nm cm1 an1 nn cn1 al1 nl cl1) (k1 : RAt V am1 nm zs an1 nn ps al1 nl qs) => spec_cen am1 nm cm1 zs q bx cy lo hi an1 nn cn1 ps al1 nl cl1 qs V k1 h64 (by omega) k0)
    have HI := Lib.hid (fun V am1 cm1 an1 cn1 al1 cl1 (k1 : RAt V am1 nm zs an1 nn ps al1 nl qs) => impl_cen am1 nm cm1 zs q bx cy lo hi an1 nn cn1 ps al1 nl cl1 qs V k1 h64 (by omega))
    obtain ⟨sN, sD, hv⟩ := cen_ex (rmB zs q bx cy lo hi ps qs) (lo + hi)
    rw [hv] at HS HI
    have hz1 : ¬ (1048576 - (nm : Int) - nn - nl < 0) := by omega
    clear hA h64 h1 h2 h3 hv
    go_enter Try.func9, Try.ntmps9
    have k0 := K0.c8_0
    have k1 := K0.c8_1
    have k2 := K0.c8_2
    have k3 := K0.c8_3
    have k4 := K0.c8_4
    have k5 := K0.c8_5
    have k6 := K0.c8_6
    have k7 := K0.c8_7
    go_wp2_with fail
    generalize w.alloc (.cells #[.slice am nm cm, .int .i64 q, .int .i64 bx, .int .i64 cy, .int .i64 lo, .int .i64 hi, .slice an nn cn, .slice al nl cl] 48) = V at *
    refine (HZ.out _).mono ?_
    rintro e w1 ⟨rfl, bl1⟩
    have b1 := below_to bV bl1
    have K1 := K0.to bl1
    clear k0 k1 k2 k3 k4 k5 k6 k7
    clear bV K0 bl1 HZ
    have k0 := K1.c8_0
    have k1 := K1.c8_1
    have k2 := K1.c8_2
    have k3 := K1.c8_3
    have k4 := K1.c8_4
    have k5 := K1.c8_5
    have k6 := K1.c8_6
    have k7 := K1.c8_7
    go_wp2_with fail
    refine (HT.out _ b1).mono ?_
    rintro e w2 ⟨am2, cm2, an2, cn2, al2, cl2, rfl, ho2, bl2⟩
    have b2 := below_to b1 bl2
    have K2 := K1.to bl2
    have O2 := Lib.hid ho2
    clear k0 k1 k2 k3 k4 k5 k6 k7
    clear b1 K1 bl2 ho2
    go_wp2_with fail
    refine (HS.out _ _ _ _ _ _ _ O2.out.nil O2.out.at).mono ?_
    rintro e w3 ⟨rfl, bl3⟩
    have bw3 := below_to bl3 (below_one w3 (.cells #[.int .i64 sN, .int .i64 sD] 27))
    have b3 := below_to b2 bw3
    have K3 := K2.to bw3
    have KW := blk_new w3 #[.int .i64 sN, .int .i64 sD] 27 rfl
    clear b2 K2 bl3 bw3 O2
    have k0 := K3.c8_0
    have k1 := K3.c8_1
    have k2 := K3.c8_2
    have k3 := K3.c8_3
    have k4 := K3.c8_4
    have k5 := K3.c8_5
    have k6 := K3.c8_6
    have k7 := K3.c8_7
    go_wp2_with fail
    generalize w3.alloc (.cells #[.int .i64 sN, .int .i64 sD] 27) = W3 at *
    generalize w3.heap.size = bw at *
    refine (HT.out _ b3).mono ?_
    rintro e w4 ⟨am4, cm4, an4, cn4, al4, cl4, rfl, ho4, bl4⟩
    have bX := below_to bl4 (below_one w4 (.cells #[.slice am4 nm cm4, .int .i64 q, .int .i64 bx, .int .i64 cy, .int .i64 lo, .int .i64 hi, .slice an4 nn cn4, .slice al4 nl cl4] 52))
    have b4 := below_to b3 bX
    have K4 := K3.to bX
    have KW4 := KW.to bX
    have KX := blk_new w4 #[.slice am4 nm cm4, .int .i64 q, .int .i64 bx, .int .i64 cy, .int .i64 lo, .int .i64 hi, .slice an4 nn cn4, .slice al4 nl cl4] 52 rfl
    have O4 := Lib.hid (ho4.below (below_one w4 (.cells #[.slice am4 nm cm4, .int .i64 q, .int .i64 bx, .int .i64 cy, .int .i64 lo, .int .i64 hi, .slice an4 nn cn4, .slice al4 nl cl4] 52)))
    clear k0 k1 k2 k3 k4 k5 k6 k7
    clear b3 K3 KW bX bl4 ho4
    have k0 := KX.c8_0
    have k1 := KX.c8_1
    have k2 := KX.c8_2
    have k3 := KX.c8_3
    have k4 := KX.c8_4
    have k5 := KX.c8_5
    have k6 := KX.c8_6
    have k7 := KX.c8_7
    go_wp2_with fail
    generalize w4.alloc (.cells #[.slice am4 nm cm4, .int .i64 q, .int .i64 bx, .int .i64 cy, .int .i64 lo, .int .i64 hi, .slice an4 nn cn4, .slice al4 nl cl4] 52) = X at *
    generalize w4.heap.size = bx4 at *
    refine (HI.out _ _ _ _ _ _ _ O4.out.at).mono ?_
    rintro e w6 ⟨rfl, bl6⟩
    have bw6 := below_to bl6 (below_one w6 (.cells #[.int .i64 sN, .int .i64 sD] 27))
    have b6 := below_to b4 bw6
    have K6 := K4.to bw6
    have X6 := KX.to bw6
    have KW6 := KW4.to bw6
    have KG := blk_new w6 #[.int .i64 sN, .int .i64 sD] 27 rfl
    have O6 := Lib.hid (O4.out.below bw6)
    clear k0 k1 k2 k3 k4 k5 k6 k7
    clear b4 K4 KX KW4 bl6 bw6 O4
    have g0 := KG.cell0 (i := 0) (v := .int .i64 sN) rfl
    have g1 := KG.cell0 (i := 1) (v := .int .i64 sD) rfl
    have u0 := KW6.cell0 (i := 0) (v := .int .i64 sN) rfl
    have u1 := KW6.cell0 (i := 1) (v := .int .i64 sD) rfl
    go_wp2_with fail
    generalize w6.alloc (.cells #[.int .i64 sN, .int .i64 sD] 27) = W6 at *
    refine (eqr_room sN sD _).mono ?_
    rintro e w7 ⟨rfl, bl7⟩
    have b7 := below_to b6 bl7
    have K7 := K6.to bl7
    have X7 := X6.to bl7
    have O7 := Lib.hid (O6.out.below bl7)
    clear g0 g1 u0 u1 b6 K6 X6 KW6 KG O6 bl7
    go_wp2
    go_region_held3 (fun w' => w'.cell? ⟨bx4, 0, none⟩ = some (.slice am4 nm cm4) ∧ w'.cell? ⟨bx4, 1, none⟩ = some (.int .i64 q) ∧ w'.cell? ⟨bx4, 2, none⟩ = some (.int .i64 bx) ∧ w'.cell? ⟨bx4, 3, none⟩ = some (.int .i64 cy) ∧ w'.cell? ⟨bx4, 4, none⟩ = some (.int .i64 lo) ∧ w'.cell? ⟨bx4, 5, none⟩ = some (.int .i64 hi) ∧ w'.cell? ⟨bx4, 6, none⟩ = some (.slice an4 nn cn4) ∧ w'.cell? ⟨bx4, 7, none⟩ = some (.slice al4 nl cl4) ∧ w'.cell? ⟨w.heap.size, 0, none⟩ = some (.slice am nm cm) ∧ w'.cell? ⟨w.heap.size, 1, none⟩ = some (.int .i64 q) ∧ w'.cell? ⟨w.heap.size, 2, none⟩ = some (.int .i64 bx) ∧ w'.cell? ⟨w.heap.size, 3, none⟩ = some (.int .i64 cy) ∧ w'.cell? ⟨w.heap.size, 4, none⟩ = some (.int .i64 lo) ∧ w'.cell? ⟨w.heap.size, 5, none⟩ = some (.int .i64 hi) ∧ w'.cell? ⟨w.heap.size, 6, none⟩ = some (.slice an nn cn) ∧ w'.cell? ⟨w.heap.size, 7, none⟩ = some (.slice al nl cl))
      ((refine room16 X7 K7 ?_; repeat (first | exact Below.refl _ _ | refine below_drw ?_ | refine below_to ?_ (by assumption))))
      (first | (go_at_call 30; (with_reducible refine (HT.out _ ?_).mono ?_); (focus (repeat (first | exact b7 | refine below_drw ?_ | refine below_to ?_ (by assumption)))); rintro e w8 ⟨am7, cm7, an7, cn7, al7, cl7, rfl, ho7, bl8⟩) | (go_at_call 32; (with_reducible refine (HE.out _ _ _ _ _ _ _ _ _ _ _ _ _ ?_ ?_).mono ?_); (focus ((refine O7.out.at.below ?_); repeat (first | exact Below.refl _ _ | refine below_drw ?_ | refine below_to ?_ (by assumption)))); (focus (exact ho7.at)); rintro e w9 ⟨rfl, bl9⟩))
    all_goals
      go_wp2
      go_ret
      refine ⟨rfl, ?_⟩
      repeat (first | exact b7 | refine below_drw ?_ | refine below_to ?_ (by assumption))
  · have HZ := Lib.hid (fun V => sz_room am nm cm q bx cy lo hi an nn cn al nl cl V h1 h2 h3 1048576 (by omega) (by omega) (-1) (by rw [if_neg hle]))
    clear hA h64 h1 h2 h3 hle
    go_enter Try.func9, Try.ntmps9
    have k0 := K0.c8_0
    have k1 := K0.c8_1
    have k2 := K0.c8_2
    have k3 := K0.c8_3
    have k4 := K0.c8_4
    have k5 := K0.c8_5
    have k6 := K0.c8_6
    have k7 := K0.c8_7
    go_wp2_with fail
    generalize w.alloc (.cells #[.slice am nm cm, .int .i64 q, .int .i64 bx, .int .i64 cy, .int .i64 lo, .int .i64 hi, .slice an nn cn, .slice al nl cl] 48) = V at *
    refine (HZ.out _).mono ?_
    rintro e w1 ⟨rfl, bl1⟩
    have b1 := below_to bV bl1
    go_wp2
    go_ret
    exact ⟨rfl, b1⟩
end Go.Proofs.Ytefafkainfhhkaa
