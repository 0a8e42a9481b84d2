/- The walk of the law of SameRooms. -/
import Derived.Test.YtefafkainfhhkaaKt
namespace Go.Proofs.Ytefafkainfhhkaa
open Go.RowKit
open Geo (H3)

set_option maxRecDepth 100000 in
set_option maxHeartbeats 6400000 in
theorem law_sro (am : Option Addr) (nm cm : Nat) (zs : List Int) (q bx cy lo hi : Int) (an : Option Addr) (nn cn : Nat) (ps : List H3) (al : Option Addr) (nl cl : Nat) (qs : List H3) (am2 : Option Addr) (nm2 cm2 : Nat) (zs2 : List Int) (q2 bx2 cy2 lo2 hi2 : Int) (an2 : Option Addr) (nn2 cn2 : Nat) (ps2 : List H3) (al2 : Option Addr) (nl2 cl2 : Nat) (qs2 : List H3) (w : World) (_h64 : R64 q bx cy lo hi ps qs) (h1 : nm ≤ maxLen) (h2 : nn ≤ maxLen) (h3 : nl ≤ maxLen) (hA : RAt w am nm zs an nn ps al nl qs) (_k64 : R64 q2 bx2 cy2 lo2 hi2 ps2 qs2) (k1 : nm2 ≤ maxLen) (k2 : nn2 ≤ maxLen) (k3 : nl2 ≤ maxLen) (hB : RAt w am2 nm2 zs2 an2 nn2 ps2 al2 nl2 qs2) :
    Calls Try.prog 7 #[.agg #[.slice am nm cm, .int .i64 q, .int .i64 bx, .int .i64 cy, .int .i64 lo, .int .i64 hi, .slice an nn cn, .slice al nl cl], .agg #[.slice am2 nm2 cm2, .int .i64 q2, .int .i64 bx2, .int .i64 cy2, .int .i64 lo2, .int .i64 hi2, .slice an2 nn2 cn2, .slice al2 nl2 cl2]] w fun e w' => e = .returned (.bool true) ∧ Below w.heap.size w w' := by
  have bV := below_bx2 (below_one w (.cells #[.slice am nm cm, .int .i64 q, .int .i64 bx, .int .i64 cy, .int .i64 lo, .int .i64 hi, .slice an nn cn, .slice al nl cl] 48)) (.cells #[.slice am2 nm2 cm2, .int .i64 q2, .int .i64 bx2, .int .i64 cy2, .int .i64 lo2, .int .i64 hi2, .slice an2 nn2 cn2, .slice al2 nl2 cl2] 48)
  have K0 := (blk_new w #[.slice am nm cm, .int .i64 q, .int .i64 bx, .int .i64 cy, .int .i64 lo, .int .i64 hi, .slice an nn cn, .slice al nl cl] 48 rfl).to (below_one _ (.cells #[.slice am2 nm2 cm2, .int .i64 q2, .int .i64 bx2, .int .i64 cy2, .int .i64 lo2, .int .i64 hi2, .slice an2 nn2 cn2, .slice al2 nl2 cl2] 48))
  have J0 := blk_new (w.alloc (.cells #[.slice am nm cm, .int .i64 q, .int .i64 bx, .int .i64 cy, .int .i64 lo, .int .i64 hi, .slice an nn cn, .slice al nl cl] 48)) #[.slice am2 nm2 cm2, .int .i64 q2, .int .i64 bx2, .int .i64 cy2, .int .i64 lo2, .int .i64 hi2, .slice an2 nn2 cn2, .slice al2 nl2 cl2] 48 (b := w.heap.size + 1) (by simp)
  by_cases hle : (nm : Int) + nn + nl ≤ 1048576
  · have HZ := Lib.hid (fun V => sz_room am nm cm q bx cy lo hi an nn cn al nl cl V h1 h2 h3 1048576 (by omega) (by omega) (1048576 - nm - nn - nl) (by rw [if_pos hle]))
    have hz1 : ¬ (1048576 - (nm : Int) - nn - nl < 0) := by omega
    by_cases hle2 : (nm2 : Int) + nn2 + nl2 ≤ 1048576 - nm - nn - nl
    · have HZ2 := Lib.hid (fun V => sz_room am2 nm2 cm2 q2 bx2 cy2 lo2 hi2 an2 nn2 cn2 al2 nl2 cl2 V k1 k2 k3 (1048576 - nm - nn - nl) (by omega) (by omega) (1048576 - nm - nn - nl - nm2 - nn2 - nl2) (by rw [if_pos hle2]))
      have hz2 : ¬ (1048576 - (nm : Int) - nn - nl - nm2 - nn2 - nl2 < 0) := by omega
      have HT := Lib.hid (fun V (h : Below w.heap.size w V) => to_room am nm cm zs q bx cy lo hi an nn cn ps al nl cl qs V (hA.below h) (by omega))
      have HU := Lib.hid (fun V (h : Below w.heap.size w V) => to_room am2 nm2 cm2 zs2 q2 bx2 cy2 lo2 hi2 an2 nn2 cn2 ps2 al2 nl2 cl2 qs2 V (hB.below h) (by omega))
      have HE := Lib.hid (fun V amx cmx anx cnx alx clx amy cmy any cny aly cly (e1 : RAt V amx nm zs anx nn ps alx nl qs) (e2 : RAt V amy nm zs any nn ps aly nl qs) => eq_room amx nm cmx zs q bx cy lo hi anx nn cnx ps alx nl clx qs amy cmy any cny aly cly V e1 e2 (by omega))
      have HF := Lib.hid (fun V amx cmx anx cnx alx clx amy cmy any cny aly cly (e1 : RAt V amx nm2 zs2 anx nn2 ps2 alx nl2 qs2) (e2 : RAt V amy nm2 zs2 any nn2 ps2 aly nl2 qs2) => eq_room amx nm2 cmx zs2 q2 bx2 cy2 lo2 hi2 anx nn2 cnx ps2 alx nl2 clx qs2 amy cmy any cny aly cly V e1 e2 (by omega))
      have HS := Lib.hid (fun V amx cmx anx cnx alx clx amy cmy any cny aly cly (e1 : RAt V amx nm zs anx nn ps alx nl qs) (e2 : RAt V amy nm2 zs2 any nn2 ps2 aly nl2 qs2) => spec_sro amx nm cmx zs q bx cy lo hi anx nn cnx ps alx nl clx qs amy nm2 cmy zs2 q2 bx2 cy2 lo2 hi2 any nn2 cny ps2 aly nl2 cly qs2 V _ rfl e1 e2 (by omega))
      have HI := Lib.hid (fun V amx cmx anx cnx alx clx amy cmy any cny aly cly (e1 : RAt V amx nm zs anx nn ps alx nl qs) (e2 : RAt V amy nm2 zs2 any nn2 ps2 aly nl2 qs2) => impl_sro amx nm cmx zs q bx cy lo hi anx nn cnx ps alx nl clx qs amy nm2 cmy zs2 q2 bx2 cy2 lo2 hi2 any nn2 cny ps2 aly nl2 cly qs2 V _ rfl e1 e2 (by omega))
      generalize srB zs q bx cy lo hi ps qs zs2 q2 bx2 cy2 lo2 hi2 ps2 qs2 = r at *
      clear hA hB h1 h2 h3 k1 k2 k3
      go_enter Try.func7, Try.ntmps7
      have k0 := K0.c8_0
      have k1 := K0.c8_1
      have k2 := K0.c8_2
      have k3 := K0.c8_3
      have k4 := K0.c8_4
      have k5 := K0.c8_5
      have k6 := K0.c8_6
      have k7 := K0.c8_7
      go_wp2_with fail
      generalize (w.alloc (.cells #[.slice am nm cm, .int .i64 q, .int .i64 bx, .int .i64 cy, .int .i64 lo, .int .i64 hi, .slice an nn cn, .slice al nl cl] 48)).alloc (.cells #[.slice am2 nm2 cm2, .int .i64 q2, .int .i64 bx2, .int .i64 cy2, .int .i64 lo2, .int .i64 hi2, .slice an2 nn2 cn2, .slice al2 nl2 cl2] 48) = V at *
      refine (HZ.out _).mono ?_
      rintro e w1 ⟨rfl, bl1⟩
      have b1 := below_to bV bl1
      have K1 := K0.to bl1
      have J1 := J0.to bl1
      clear k0 k1 k2 k3 k4 k5 k6 k7
      clear bV K0 J0 bl1 HZ
      have k0 := J1.c8_0
      have k1 := J1.c8_1
      have k2 := J1.c8_2
      have k3 := J1.c8_3
      have k4 := J1.c8_4
      have k5 := J1.c8_5
      have k6 := J1.c8_6
      have k7 := J1.c8_7
      go_wp2_with fail
      refine (HZ2.out _).mono ?_
      rintro e w2 ⟨rfl, bl2⟩
      have b2 := below_to b1 bl2
      have K2 := K1.to bl2
      have J2 := J1.to bl2
      clear k0 k1 k2 k3 k4 k5 k6 k7
      clear b1 K1 J1 bl2 HZ2
      go_wp2
      go_cut [6] from 20 to 24 (fun x wx => x = .bool r ∧ Below w2.heap.size w2 wx)
      case first =>
        go_region_held3 (fun w' => w'.cell? ⟨w.heap.size, 0, none⟩ = some (.slice am nm cm) ∧ w'.cell? ⟨w.heap.size, 1, none⟩ = some (.int .i64 q) ∧ w'.cell? ⟨w.heap.size, 2, none⟩ = some (.int .i64 bx) ∧ w'.cell? ⟨w.heap.size, 3, none⟩ = some (.int .i64 cy) ∧ w'.cell? ⟨w.heap.size, 4, none⟩ = some (.int .i64 lo) ∧ w'.cell? ⟨w.heap.size, 5, none⟩ = some (.int .i64 hi) ∧ w'.cell? ⟨w.heap.size, 6, none⟩ = some (.slice an nn cn) ∧ w'.cell? ⟨w.heap.size, 7, none⟩ = some (.slice al nl cl) ∧ w'.cell? ⟨w.heap.size + 1, 0, none⟩ = some (.slice am2 nm2 cm2) ∧ w'.cell? ⟨w.heap.size + 1, 1, none⟩ = some (.int .i64 q2) ∧ w'.cell? ⟨w.heap.size + 1, 2, none⟩ = some (.int .i64 bx2) ∧ w'.cell? ⟨w.heap.size + 1, 3, none⟩ = some (.int .i64 cy2) ∧ w'.cell? ⟨w.heap.size + 1, 4, none⟩ = some (.int .i64 lo2) ∧ w'.cell? ⟨w.heap.size + 1, 5, none⟩ = some (.int .i64 hi2) ∧ w'.cell? ⟨w.heap.size + 1, 6, none⟩ = some (.slice an2 nn2 cn2) ∧ w'.cell? ⟨w.heap.size + 1, 7, none⟩ = some (.slice al2 nl2 cl2))
          ((refine room16s K2 J2 ?_; repeat (first | exact Below.refl _ _ | refine below_drw ?_ | refine below_to ?_ (by assumption))))
          (first | (go_at_call 30; first | ((with_reducible refine (HT.out _ ?_).mono ?_); (focus (repeat (first | exact b2 | refine below_drw ?_ | refine below_to ?_ (by assumption)))); rintro e w3 ⟨am3, cm3, an3, cn3, al3, cl3, rfl, ho3, bl3⟩) | ((with_reducible refine (HU.out _ ?_).mono ?_); (focus (repeat (first | exact b2 | refine below_drw ?_ | refine below_to ?_ (by assumption)))); rintro e w4 ⟨am4, cm4, an4, cn4, al4, cl4, rfl, ho4, bl4⟩)) | (go_at_call 33; (with_reducible refine (HS.out _ _ _ _ _ _ _ _ _ _ _ _ _ ?_ ?_).mono ?_); (focus ((refine ho3.at.below ?_); repeat (first | exact Below.refl _ _ | refine below_drw ?_ | refine below_to ?_ (by assumption)))); (focus ((refine ho4.at.below ?_); repeat (first | exact Below.refl _ _ | refine below_drw ?_ | refine below_to ?_ (by assumption)))); rintro e w5 ⟨rfl, bl5⟩))
        all_goals
          go_wp2_with fail
          go_meet
          refine ⟨rfl, ?_⟩
          repeat (first | exact Below.refl _ _ | refine below_drw ?_ | refine below_to ?_ (by assumption))
      case rest =>
      obtain ⟨rfl, blc⟩ := hcut
      rename World => w5
      have b5 := below_to b2 blc
      have K5 := K2.to blc
      have J5 := J2.to blc
      clear b2 K2 J2 blc HS
      have k0 := K5.c8_0
      have k1 := K5.c8_1
      have k2 := K5.c8_2
      have k3 := K5.c8_3
      have k4 := K5.c8_4
      have k5 := K5.c8_5
      have k6 := K5.c8_6
      have k7 := K5.c8_7
      go_wp2_with fail
      refine (HT.out _ b5).mono ?_
      rintro e w6 ⟨am6, cm6, an6, cn6, al6, cl6, rfl, ho6, bl6⟩
      have bX := below_to bl6 (below_one w6 (.cells #[.slice am6 nm cm6, .int .i64 q, .int .i64 bx, .int .i64 cy, .int .i64 lo, .int .i64 hi, .slice an6 nn cn6, .slice al6 nl cl6] 52))
      have b6 := below_to b5 bX
      have K6 := K5.to bX
      have J6 := J5.to bX
      have KX := blk_new w6 #[.slice am6 nm cm6, .int .i64 q, .int .i64 bx, .int .i64 cy, .int .i64 lo, .int .i64 hi, .slice an6 nn cn6, .slice al6 nl cl6] 52 rfl
      have O6 := Lib.hid (ho6.below (below_one w6 (.cells #[.slice am6 nm cm6, .int .i64 q, .int .i64 bx, .int .i64 cy, .int .i64 lo, .int .i64 hi, .slice an6 nn cn6, .slice al6 nl cl6] 52)))
      clear k0 k1 k2 k3 k4 k5 k6 k7
      clear b5 K5 J5 bX bl6 ho6
      have k0 := J6.c8_0
      have k1 := J6.c8_1
      have k2 := J6.c8_2
      have k3 := J6.c8_3
      have k4 := J6.c8_4
      have k5 := J6.c8_5
      have k6 := J6.c8_6
      have k7 := J6.c8_7
      go_wp2_with fail
      generalize w6.alloc (.cells #[.slice am6 nm cm6, .int .i64 q, .int .i64 bx, .int .i64 cy, .int .i64 lo, .int .i64 hi, .slice an6 nn cn6, .slice al6 nl cl6] 52) = X at *
      generalize w6.heap.size = bx6 at *
      refine (HU.out _ b6).mono ?_
      rintro e w7 ⟨am7, cm7, an7, cn7, al7, cl7, rfl, ho7, bl7⟩
      have bY := below_to bl7 (below_one w7 (.cells #[.slice am7 nm2 cm7, .int .i64 q2, .int .i64 bx2, .int .i64 cy2, .int .i64 lo2, .int .i64 hi2, .slice an7 nn2 cn7, .slice al7 nl2 cl7] 52))
      have b7 := below_to b6 bY
      have K7 := K6.to bY
      have J7 := J6.to bY
      have X7 := KX.to bY
      have KY := blk_new w7 #[.slice am7 nm2 cm7, .int .i64 q2, .int .i64 bx2, .int .i64 cy2, .int .i64 lo2, .int .i64 hi2, .slice an7 nn2 cn7, .slice al7 nl2 cl7] 52 rfl
      have O7 := Lib.hid (O6.out.below bY)
      have P7 := Lib.hid (ho7.below (below_one w7 (.cells #[.slice am7 nm2 cm7, .int .i64 q2, .int .i64 bx2, .int .i64 cy2, .int .i64 lo2, .int .i64 hi2, .slice an7 nn2 cn7, .slice al7 nl2 cl7] 52)))
      clear k0 k1 k2 k3 k4 k5 k6 k7
      clear b6 K6 J6 KX bY bl7 ho7 O6
      have k0 := X7.c8_0
      have k1 := X7.c8_1
      have k2 := X7.c8_2
      have k3 := X7.c8_3
      have k4 := X7.c8_4
      have k5 := X7.c8_5
      have k6 := X7.c8_6
      have k7 := X7.c8_7
      have l0 := KY.c8_0
      have l1 := KY.c8_1
      have l2 := KY.c8_2
      have l3 := KY.c8_3
      have l4 := KY.c8_4
      have l5 := KY.c8_5
      have l6 := KY.c8_6
      have l7 := KY.c8_7
      go_wp2_with fail
      generalize w7.alloc (.cells #[.slice am7 nm2 cm7, .int .i64 q2, .int .i64 bx2, .int .i64 cy2, .int .i64 lo2, .int .i64 hi2, .slice an7 nn2 cn7, .slice al7 nl2 cl7] 52) = Y at *
      generalize w7.heap.size = bx7 at *
      refine (HI.out _ _ _ _ _ _ _ _ _ _ _ _ _ O7.out.at P7.out.at).mono ?_
      rintro e w8 ⟨rfl, bl8⟩
      have b8 := below_to b7 bl8
      have K8 := K7.to bl8
      have J8 := J7.to bl8
      have X8 := X7.to bl8
      have Y8 := KY.to bl8
      have O8 := Lib.hid (O7.out.below bl8)
      have P8 := Lib.hid (P7.out.below bl8)
      clear k0 k1 k2 k3 k4 k5 k6 k7
      clear l0 l1 l2 l3 l4 l5 l6 l7
      clear b7 K7 J7 X7 KY bl8 O7 P7
      go_wp2
      go_cut [39] from 35 to 39 (fun x wx => x = .bool false ∧ Below w8.heap.size w8 wx)
      case first =>
        go_region_held3 (fun w' => w'.cell? ⟨bx6, 0, none⟩ = some (.slice am6 nm cm6) ∧ w'.cell? ⟨bx6, 1, none⟩ = some (.int .i64 q) ∧ w'.cell? ⟨bx6, 2, none⟩ = some (.int .i64 bx) ∧ w'.cell? ⟨bx6, 3, none⟩ = some (.int .i64 cy) ∧ w'.cell? ⟨bx6, 4, none⟩ = some (.int .i64 lo) ∧ w'.cell? ⟨bx6, 5, none⟩ = some (.int .i64 hi) ∧ w'.cell? ⟨bx6, 6, none⟩ = some (.slice an6 nn cn6) ∧ w'.cell? ⟨bx6, 7, none⟩ = some (.slice al6 nl cl6) ∧ w'.cell? ⟨w.heap.size, 0, none⟩ = some (.slice am nm cm) ∧ w'.cell? ⟨w.heap.size, 1, none⟩ = some (.int .i64 q) ∧ w'.cell? ⟨w.heap.size, 2, none⟩ = some (.int .i64 bx) ∧ w'.cell? ⟨w.heap.size, 3, none⟩ = some (.int .i64 cy) ∧ w'.cell? ⟨w.heap.size, 4, none⟩ = some (.int .i64 lo) ∧ w'.cell? ⟨w.heap.size, 5, none⟩ = some (.int .i64 hi) ∧ w'.cell? ⟨w.heap.size, 6, none⟩ = some (.slice an nn cn) ∧ w'.cell? ⟨w.heap.size, 7, none⟩ = some (.slice al nl cl))
          ((refine room16s X8 K8 ?_; repeat (first | exact Below.refl _ _ | refine below_drw ?_ | refine below_to ?_ (by assumption))))
          (first | (go_at_call 30; (with_reducible refine (HT.out _ ?_).mono ?_); (focus (repeat (first | exact b8 | refine below_drw ?_ | refine below_to ?_ (by assumption)))); rintro e w9 ⟨am9, cm9, an9, cn9, al9, cl9, rfl, ho9, bl9⟩) | (go_at_call 32; (with_reducible refine (HE.out _ _ _ _ _ _ _ _ _ _ _ _ _ ?_ ?_).mono ?_); (focus ((refine O8.out.at.below ?_); repeat (first | exact Below.refl _ _ | refine below_drw ?_ | refine below_to ?_ (by assumption)))); (focus (exact ho9.at)); rintro e w10 ⟨rfl, bl10⟩))
        all_goals
          go_wp2_with fail
          go_meet
          refine ⟨rfl, ?_⟩
          repeat (first | exact Below.refl _ _ | refine below_drw ?_ | refine below_to ?_ (by assumption))
      case rest =>
      obtain ⟨rfl, blc⟩ := hcut
      rename World => w10
      have b10 := below_to b8 blc
      have J10 := J8.to blc
      have Y10 := Y8.to blc
      have P10 := Lib.hid (P8.out.below blc)
      clear b8 K8 J8 X8 Y8 O8 P8 blc
      go_wp2
      go_region_held3 (fun w' => w'.cell? ⟨bx7, 0, none⟩ = some (.slice am7 nm2 cm7) ∧ w'.cell? ⟨bx7, 1, none⟩ = some (.int .i64 q2) ∧ w'.cell? ⟨bx7, 2, none⟩ = some (.int .i64 bx2) ∧ w'.cell? ⟨bx7, 3, none⟩ = some (.int .i64 cy2) ∧ w'.cell? ⟨bx7, 4, none⟩ = some (.int .i64 lo2) ∧ w'.cell? ⟨bx7, 5, none⟩ = some (.int .i64 hi2) ∧ w'.cell? ⟨bx7, 6, none⟩ = some (.slice an7 nn2 cn7) ∧ w'.cell? ⟨bx7, 7, none⟩ = some (.slice al7 nl2 cl7) ∧ w'.cell? ⟨w.heap.size + 1, 0, none⟩ = some (.slice am2 nm2 cm2) ∧ w'.cell? ⟨w.heap.size + 1, 1, none⟩ = some (.int .i64 q2) ∧ w'.cell? ⟨w.heap.size + 1, 2, none⟩ = some (.int .i64 bx2) ∧ w'.cell? ⟨w.heap.size + 1, 3, none⟩ = some (.int .i64 cy2) ∧ w'.cell? ⟨w.heap.size + 1, 4, none⟩ = some (.int .i64 lo2) ∧ w'.cell? ⟨w.heap.size + 1, 5, none⟩ = some (.int .i64 hi2) ∧ w'.cell? ⟨w.heap.size + 1, 6, none⟩ = some (.slice an2 nn2 cn2) ∧ w'.cell? ⟨w.heap.size + 1, 7, none⟩ = some (.slice al2 nl2 cl2))
        ((refine room16s Y10 J10 ?_; repeat (first | exact Below.refl _ _ | refine below_drw ?_ | refine below_to ?_ (by assumption))))
        (first | (go_at_call 30; (with_reducible refine (HU.out _ ?_).mono ?_); (focus (repeat (first | exact b10 | refine below_drw ?_ | refine below_to ?_ (by assumption)))); rintro e w11 ⟨am11, cm11, an11, cn11, al11, cl11, rfl, ho11, bl11⟩) | (go_at_call 32; (with_reducible refine (HF.out _ _ _ _ _ _ _ _ _ _ _ _ _ ?_ ?_).mono ?_); (focus ((refine P10.out.at.below ?_); repeat (first | exact Below.refl _ _ | refine below_drw ?_ | refine below_to ?_ (by assumption)))); (focus (exact ho11.at)); rintro e w12 ⟨rfl, bl12⟩))
      all_goals
        go_wp2
        go_ret
        refine ⟨rfl, ?_⟩
        repeat (first | exact b10 | refine below_drw ?_ | refine below_to ?_ (by assumption))
    · have HZ2 := Lib.hid (fun V => sz_room am2 nm2 cm2 q2 bx2 cy2 lo2 hi2 an2 nn2 cn2 al2 nl2 cl2 V k1 k2 k3 (1048576 - nm - nn - nl) (by omega) (by omega) (-1) (by rw [if_neg hle2]))
      clear hA hB h1 h2 h3 k1 k2 k3 hle2
      go_enter Try.func7, Try.ntmps7
      have k0 := K0.c8_0
      have k1 := K0.c8_1
      have k2 := K0.c8_2
      have k3 := K0.c8_3
      have k4 := K0.c8_4
      have k5 := K0.c8_5
      have k6 := K0.c8_6
      have k7 := K0.c8_7
      go_wp2_with fail
      generalize (w.alloc (.cells #[.slice am nm cm, .int .i64 q, .int .i64 bx, .int .i64 cy, .int .i64 lo, .int .i64 hi, .slice an nn cn, .slice al nl cl] 48)).alloc (.cells #[.slice am2 nm2 cm2, .int .i64 q2, .int .i64 bx2, .int .i64 cy2, .int .i64 lo2, .int .i64 hi2, .slice an2 nn2 cn2, .slice al2 nl2 cl2] 48) = V at *
      refine (HZ.out _).mono ?_
      rintro e w1 ⟨rfl, bl1⟩
      have b1 := below_to bV bl1
      have J1 := J0.to bl1
      clear k0 k1 k2 k3 k4 k5 k6 k7
      have k0 := J1.c8_0
      have k1 := J1.c8_1
      have k2 := J1.c8_2
      have k3 := J1.c8_3
      have k4 := J1.c8_4
      have k5 := J1.c8_5
      have k6 := J1.c8_6
      have k7 := J1.c8_7
      go_wp2_with fail
      refine (HZ2.out _).mono ?_
      rintro e w2 ⟨rfl, bl2⟩
      have b2 := below_to b1 bl2
      go_wp2
      go_ret
      exact ⟨rfl, b2⟩
  · have HZ := Lib.hid (fun V => sz_room am nm cm q bx cy lo hi an nn cn al nl cl V h1 h2 h3 1048576 (by omega) (by omega) (-1) (by rw [if_neg hle]))
    clear hA hB h1 h2 h3 k1 k2 k3 hle
    go_enter Try.func7, Try.ntmps7
    have k0 := K0.c8_0
    have k1 := K0.c8_1
    have k2 := K0.c8_2
    have k3 := K0.c8_3
    have k4 := K0.c8_4
    have k5 := K0.c8_5
    have k6 := K0.c8_6
    have k7 := K0.c8_7
    go_wp2_with fail
    generalize (w.alloc (.cells #[.slice am nm cm, .int .i64 q, .int .i64 bx, .int .i64 cy, .int .i64 lo, .int .i64 hi, .slice an nn cn, .slice al nl cl] 48)).alloc (.cells #[.slice am2 nm2 cm2, .int .i64 q2, .int .i64 bx2, .int .i64 cy2, .int .i64 lo2, .int .i64 hi2, .slice an2 nn2 cn2, .slice al2 nl2 cl2] 48) = V at *
    refine (HZ.out _).mono ?_
    rintro e w1 ⟨rfl, bl1⟩
    have b1 := below_to bV bl1
    go_wp2
    go_ret
    exact ⟨rfl, b1⟩
end Go.Proofs.Ytefafkainfhhkaa
