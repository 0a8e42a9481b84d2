/- The walk of the law of IsInput. -/
import Derived.Test.YtefafkainfhhkaaKi
namespace Go.Proofs.Ytefafkainfhhkaa
open Go.RowKit
open Geo (H3)

theorem room10 {V X : World} {B C : Nat} {a0 a1 a2 a3 a4 a5 a6 a7 b0 b1 : Value} {T U : TypeId} (h : Blk V B #[a0, a1, a2, a3, a4, a5, a6, a7] T) (k : Blk V C #[b0, b1] U) (hb : Below V.heap.size V X) :
    X.cell? ⟨B, 0, none⟩ = some a0 ∧ X.cell? ⟨B, 1, none⟩ = some a1 ∧ X.cell? ⟨B, 2, none⟩ = some a2 ∧ X.cell? ⟨B, 3, none⟩ = some a3 ∧ X.cell? ⟨B, 4, none⟩ = some a4 ∧ X.cell? ⟨B, 5, none⟩ = some a5 ∧ X.cell? ⟨B, 6, none⟩ = some a6 ∧ X.cell? ⟨B, 7, none⟩ = some a7 ∧ X.cell? ⟨C, 0, none⟩ = some b0 ∧ X.cell? ⟨C, 1, none⟩ = some b1 :=
  ⟨(h.to hb).c8_0, (h.to hb).c8_1, (h.to hb).c8_2, (h.to hb).c8_3, (h.to hb).c8_4, (h.to hb).c8_5, (h.to hb).c8_6, (h.to hb).c8_7, (k.to hb).cell0 (i := 0) rfl, (k.to hb).cell0 (i := 1) rfl⟩
theorem room16i {V X : World} {B C : Nat} {a0 a1 a2 a3 a4 a5 a6 a7 b0 b1 b2 b3 b4 b5 b6 b7 : Value} {T U : TypeId} (h : Blk V B #[a0, a1, a2, a3, a4, a5, a6, a7] T) (k : Blk V C #[b0, b1, b2, b3, b4, b5, b6, b7] U) (hb : Below V.heap.size V X) :
    X.cell? ⟨B, 0, none⟩ = some a0 ∧ X.cell? ⟨B, 1, none⟩ = some a1 ∧ X.cell? ⟨B, 2, none⟩ = some a2 ∧ X.cell? ⟨B, 3, none⟩ = some a3 ∧ X.cell? ⟨B, 4, none⟩ = some a4 ∧ X.cell? ⟨B, 5, none⟩ = some a5 ∧ X.cell? ⟨B, 6, none⟩ = some a6 ∧ X.cell? ⟨B, 7, none⟩ = some a7 ∧ X.cell? ⟨C, 0, none⟩ = some b0 ∧ X.cell? ⟨C, 1, none⟩ = some b1 ∧ X.cell? ⟨C, 2, none⟩ = some b2 ∧ X.cell? ⟨C, 3, none⟩ = some b3 ∧ X.cell? ⟨C, 4, none⟩ = some b4 ∧ X.cell? ⟨C, 5, none⟩ = some b5 ∧ X.cell? ⟨C, 6, none⟩ = some b6 ∧ X.cell? ⟨C, 7, none⟩ = some b7 :=
  ⟨(h.to hb).c8_0, (h.to hb).c8_1, (h.to hb).c8_2, (h.to hb).c8_3, (h.to hb).c8_4, (h.to hb).c8_5, (h.to hb).c8_6, (h.to hb).c8_7, (k.to hb).c8_0, (k.to hb).c8_1, (k.to hb).c8_2, (k.to hb).c8_3, (k.to hb).c8_4, (k.to hb).c8_5, (k.to hb).c8_6, (k.to hb).c8_7⟩
set_option maxRecDepth 100000 in
set_option maxHeartbeats 6400000 in
theorem law_isi (am : Option Addr) (nm cm : Nat) (zs : List Int) (q bx cy lo hi : Int) (an : Option Addr) (nn cn : Nat) (ps : List H3) (al : Option Addr) (nl cl : Nat) (qs : List H3) (uN uD : Int) (wN : (Lit.int .i64 uN).wf = true) (wD : (Lit.int .i64 uD).wf = true) (w : World) (h64 : R64 q bx cy lo hi ps qs) (h1 : nm ≤ maxLen) (h2 : nn ≤ maxLen) (h3 : nl ≤ maxLen) (hA : RAt w am nm zs an nn ps al nl qs) :
    Calls Try.prog 10 #[.agg #[.slice am nm cm, .int .i64 q, .int .i64 bx, .int .i64 cy, .int .i64 lo, .int .i64 hi, .slice an nn cn, .slice al nl cl], .agg #[.int .i64 uN, .int .i64 uD]] w fun e w' => e = .returned (.bool true) ∧ Below w.heap.size w w' := by
  have bV := below_bx2 (below_one w (.cells #[.slice am nm cm, .int .i64 q, .int .i64 bx, .int .i64 cy, .int .i64 lo, .int .i64 hi, .slice an nn cn, .slice al nl cl] 48)) (.cells #[.int .i64 uN, .int .i64 uD] 59)
  have K0 := (blk_new w #[.slice am nm cm, .int .i64 q, .int .i64 bx, .int .i64 cy, .int .i64 lo, .int .i64 hi, .slice an nn cn, .slice al nl cl] 48 rfl).to (below_one _ (.cells #[.int .i64 uN, .int .i64 uD] 59))
  have U0 := blk_new (w.alloc (.cells #[.slice am nm cm, .int .i64 q, .int .i64 bx, .int .i64 cy, .int .i64 lo, .int .i64 hi, .slice an nn cn, .slice al nl cl] 48)) #[.int .i64 uN, .int .i64 uD] 59 (b := w.heap.size + 1) (by simp)
  by_cases hle : (nm : Int) + nn + nl ≤ 1048576
  · have HZ := Lib.hid (fun V => sz_room am nm cm q bx cy lo hi an nn cn al nl cl V h1 h2 h3 1048576 (by omega) (by omega) (1048576 - nm - nn - nl) (by rw [if_pos hle]))
    have HT := Lib.hid (fun V (h : Below w.heap.size w V) => to_room am nm cm zs q bx cy lo hi an nn cn ps al nl cl qs V (hA.below h) (by omega))
    have HE := Lib.hid (fun V am1 cm1 an1 cn1 al1 cl1 am2 cm2 an2 cn2 al2 cl2 (k1 : RAt V am1 nm zs an1 nn ps al1 nl qs) (k2 : RAt V am2 nm zs an2 nn ps al2 nl qs) => eq_room am1 nm cm1 zs q bx cy lo hi an1 nn cn1 ps al1 nl cl1 qs am2 cm2 an2 cn2 al2 cl2 V k1 k2 (by omega))
    have HS := Lib.hid (fun V am1 cm1 an1 cn1 al1 cl1 (k0 : RNil am1 nm cm1 an1 nn cn1 al1 nl cl1) (k1 : RAt V am1 nm zs an1 nn ps al1 nl qs) => spec_isi am1 nm cm1 zs q bx cy lo hi an1 nn cn1 ps al1 nl cl1 qs uN uD V k1 h64 ⟨bounds_i64 wN, bounds_i64 wD⟩ (by omega) k0)
    have HI := Lib.hid (fun V am1 cm1 an1 cn1 al1 cl1 (k1 : RAt V am1 nm zs an1 nn ps al1 nl qs) => impl_isi am1 nm cm1 zs q bx cy lo hi an1 nn cn1 ps al1 nl cl1 qs uN uD V k1 h64 ⟨bounds_i64 wN, bounds_i64 wD⟩ (by omega))
    generalize isiB zs q bx cy lo hi ps qs uN uD = r at *
    have hz1 : ¬ (1048576 - (nm : Int) - nn - nl < 0) := by omega
    clear hA h64 h1 h2 h3 wN wD
    go_enter Try.func10, Try.ntmps10
    have k0 := K0.c8_0
    have k1 := K0.c8_1
    have k2 := K0.c8_2
    have k3 := K0.c8_3
    have k4 := K0.c8_4
    have k5 := K0.c8_5
    have k6 := K0.c8_6
    have k7 := K0.c8_7
    go_wp2_with fail
    generalize (w.alloc (.cells #[.slice am nm cm, .int .i64 q, .int .i64 bx, .int .i64 cy, .int .i64 lo, .int .i64 hi, .slice an nn cn, .slice al nl cl] 48)).alloc (.cells #[.int .i64 uN, .int .i64 uD] 59) = V at *
    refine (HZ.out _).mono ?_
    rintro e w1 ⟨rfl, bl1⟩
    have b1 := below_to bV bl1
    have K1 := K0.to bl1
    have U1 := U0.to bl1
    clear k0 k1 k2 k3 k4 k5 k6 k7
    clear bV K0 U0 bl1 HZ
    go_wp2
    go_cut [6] from 14 to 18 (fun x wx => x = .bool r ∧ Below w1.heap.size w1 wx)
    case first =>
      go_region_held3 (fun w' => w'.cell? ⟨w.heap.size, 0, none⟩ = some (.slice am nm cm) ∧ w'.cell? ⟨w.heap.size, 1, none⟩ = some (.int .i64 q) ∧ w'.cell? ⟨w.heap.size, 2, none⟩ = some (.int .i64 bx) ∧ w'.cell? ⟨w.heap.size, 3, none⟩ = some (.int .i64 cy) ∧ w'.cell? ⟨w.heap.size, 4, none⟩ = some (.int .i64 lo) ∧ w'.cell? ⟨w.heap.size, 5, none⟩ = some (.int .i64 hi) ∧ w'.cell? ⟨w.heap.size, 6, none⟩ = some (.slice an nn cn) ∧ w'.cell? ⟨w.heap.size, 7, none⟩ = some (.slice al nl cl) ∧ w'.cell? ⟨w.heap.size + 1, 0, none⟩ = some (.int .i64 uN) ∧ w'.cell? ⟨w.heap.size + 1, 1, none⟩ = some (.int .i64 uD))
        ((refine room10 K1 U1 ?_; repeat (first | exact Below.refl _ _ | refine below_drw ?_ | refine below_to ?_ (by assumption))))
        (first | (go_at_call 30; (with_reducible refine (HT.out _ ?_).mono ?_); (focus (repeat (first | exact b1 | refine below_drw ?_ | refine below_to ?_ (by assumption)))); rintro e w2 ⟨am2, cm2, an2, cn2, al2, cl2, rfl, ho2, bl2⟩) | (go_at_call 37; (with_reducible refine (to_ratio uN uD _).mono ?_); rintro e w3 ⟨rfl, bl3⟩) | (go_at_call 42; (with_reducible refine (HS.out _ _ _ _ _ _ _ ho2.nil ?_).mono ?_); (focus ((refine ho2.at.below ?_); repeat (first | exact Below.refl _ _ | refine below_drw ?_ | refine below_to ?_ (by assumption)))); rintro e w4 ⟨rfl, bl4⟩))
      all_goals
        go_wp2_with fail
        go_meet
        refine ⟨rfl, ?_⟩
        repeat (first | exact Below.refl _ _ | refine below_drw ?_ | refine below_to ?_ (by assumption))
    case rest =>
    obtain ⟨rfl, blc⟩ := hcut
    rename World => w4
    have b4 := below_to b1 blc
    have K4 := K1.to blc
    have U4 := U1.to blc
    clear b1 K1 U1 blc HS
    have k0 := K4.c8_0
    have k1 := K4.c8_1
    have k2 := K4.c8_2
    have k3 := K4.c8_3
    have k4 := K4.c8_4
    have k5 := K4.c8_5
    have k6 := K4.c8_6
    have k7 := K4.c8_7
    go_wp2_with fail
    refine (HT.out _ b4).mono ?_
    rintro e w5 ⟨am4, cm4, an4, cn4, al4, cl4, rfl, ho5, bl5⟩
    have bX := below_to bl5 (below_one w5 (.cells #[.slice am4 nm cm4, .int .i64 q, .int .i64 bx, .int .i64 cy, .int .i64 lo, .int .i64 hi, .slice an4 nn cn4, .slice al4 nl cl4] 52))
    have b5 := below_to b4 bX
    have K5 := K4.to bX
    have U5 := U4.to bX
    have KX := blk_new w5 #[.slice am4 nm cm4, .int .i64 q, .int .i64 bx, .int .i64 cy, .int .i64 lo, .int .i64 hi, .slice an4 nn cn4, .slice al4 nl cl4] 52 rfl
    have O5 := Lib.hid (ho5.below (below_one w5 (.cells #[.slice am4 nm cm4, .int .i64 q, .int .i64 bx, .int .i64 cy, .int .i64 lo, .int .i64 hi, .slice an4 nn cn4, .slice al4 nl cl4] 52)))
    clear k0 k1 k2 k3 k4 k5 k6 k7
    clear b4 K4 U4 bX bl5 ho5
    go_wp2
    generalize w5.alloc (.cells #[.slice am4 nm cm4, .int .i64 q, .int .i64 bx, .int .i64 cy, .int .i64 lo, .int .i64 hi, .slice an4 nn cn4, .slice al4 nl cl4] 52) = X at *
    generalize w5.heap.size = bx4 at *
    go_cut [8] from 21 to 24 (fun x wx => x = .bool r ∧ Below X.heap.size X wx)
    case first =>
      go_region_held3 (fun w' => w'.cell? ⟨bx4, 0, none⟩ = some (.slice am4 nm cm4) ∧ w'.cell? ⟨bx4, 1, none⟩ = some (.int .i64 q) ∧ w'.cell? ⟨bx4, 2, none⟩ = some (.int .i64 bx) ∧ w'.cell? ⟨bx4, 3, none⟩ = some (.int .i64 cy) ∧ w'.cell? ⟨bx4, 4, none⟩ = some (.int .i64 lo) ∧ w'.cell? ⟨bx4, 5, none⟩ = some (.int .i64 hi) ∧ w'.cell? ⟨bx4, 6, none⟩ = some (.slice an4 nn cn4) ∧ w'.cell? ⟨bx4, 7, none⟩ = some (.slice al4 nl cl4) ∧ w'.cell? ⟨w.heap.size + 1, 0, none⟩ = some (.int .i64 uN) ∧ w'.cell? ⟨w.heap.size + 1, 1, none⟩ = some (.int .i64 uD))
        ((refine room10 KX U5 ?_; repeat (first | exact Below.refl _ _ | refine below_drw ?_ | refine below_to ?_ (by assumption))))
        (first | (go_at_call 37; (with_reducible refine (to_ratio uN uD _).mono ?_); rintro e w6 ⟨rfl, bl6⟩) | (go_at_call 43; (with_reducible refine (HI.out _ _ _ _ _ _ _ ?_).mono ?_); (focus ((refine O5.out.at.below ?_); repeat (first | exact Below.refl _ _ | refine below_drw ?_ | refine below_to ?_ (by assumption)))); rintro e w7 ⟨rfl, bl7⟩))
      all_goals
        go_wp2_with fail
        go_meet
        refine ⟨rfl, ?_⟩
        repeat (first | exact Below.refl _ _ | refine below_drw ?_ | refine below_to ?_ (by assumption))
    case rest =>
    obtain ⟨rfl, blc⟩ := hcut
    rename World => w7
    have b7 := below_to b5 blc
    have K7 := K5.to blc
    have X7 := KX.to blc
    have O7 := Lib.hid (O5.out.below blc)
    clear b5 K5 U5 KX O5 blc HI
    go_wp2
    go_region_held3 (fun w' => w'.cell? ⟨bx4, 0, none⟩ = some (.slice am4 nm cm4) ∧ w'.cell? ⟨bx4, 1, none⟩ = some (.int .i64 q) ∧ w'.cell? ⟨bx4, 2, none⟩ = some (.int .i64 bx) ∧ w'.cell? ⟨bx4, 3, none⟩ = some (.int .i64 cy) ∧ w'.cell? ⟨bx4, 4, none⟩ = some (.int .i64 lo) ∧ w'.cell? ⟨bx4, 5, none⟩ = some (.int .i64 hi) ∧ w'.cell? ⟨bx4, 6, none⟩ = some (.slice an4 nn cn4) ∧ w'.cell? ⟨bx4, 7, none⟩ = some (.slice al4 nl cl4) ∧ w'.cell? ⟨w.heap.size, 0, none⟩ = some (.slice am nm cm) ∧ w'.cell? ⟨w.heap.size, 1, none⟩ = some (.int .i64 q) ∧ w'.cell? ⟨w.heap.size, 2, none⟩ = some (.int .i64 bx) ∧ w'.cell? ⟨w.heap.size, 3, none⟩ = some (.int .i64 cy) ∧ w'.cell? ⟨w.heap.size, 4, none⟩ = some (.int .i64 lo) ∧ w'.cell? ⟨w.heap.size, 5, none⟩ = some (.int .i64 hi) ∧ w'.cell? ⟨w.heap.size, 6, none⟩ = some (.slice an nn cn) ∧ w'.cell? ⟨w.heap.size, 7, none⟩ = some (.slice al nl cl))
      ((refine room16i X7 K7 ?_; repeat (first | exact Below.refl _ _ | refine below_drw ?_ | refine below_to ?_ (by assumption))))
      (first | (go_at_call 30; (with_reducible refine (HT.out _ ?_).mono ?_); (focus (repeat (first | exact b7 | refine below_drw ?_ | refine below_to ?_ (by assumption)))); rintro e w8 ⟨am7, cm7, an7, cn7, al7, cl7, rfl, ho7, bl8⟩) | (go_at_call 32; (with_reducible refine (HE.out _ _ _ _ _ _ _ _ _ _ _ _ _ ?_ ?_).mono ?_); (focus ((refine O7.out.at.below ?_); repeat (first | exact Below.refl _ _ | refine below_drw ?_ | refine below_to ?_ (by assumption)))); (focus (exact ho7.at)); rintro e w9 ⟨rfl, bl9⟩))
    all_goals
      go_wp2
      go_ret
      refine ⟨rfl, ?_⟩
      repeat (first | exact b7 | refine below_drw ?_ | refine below_to ?_ (by assumption))
  · have HZ := Lib.hid (fun V => sz_room am nm cm q bx cy lo hi an nn cn al nl cl V h1 h2 h3 1048576 (by omega) (by omega) (-1) (by rw [if_neg hle]))
    clear hA h64 h1 h2 h3 hle
    go_enter Try.func10, Try.ntmps10
    have k0 := K0.c8_0
    have k1 := K0.c8_1
    have k2 := K0.c8_2
    have k3 := K0.c8_3
    have k4 := K0.c8_4
    have k5 := K0.c8_5
    have k6 := K0.c8_6
    have k7 := K0.c8_7
    go_wp2_with fail
    generalize (w.alloc (.cells #[.slice am nm cm, .int .i64 q, .int .i64 bx, .int .i64 cy, .int .i64 lo, .int .i64 hi, .slice an nn cn, .slice al nl cl] 48)).alloc (.cells #[.int .i64 uN, .int .i64 uD] 59) = V at *
    refine (HZ.out _).mono ?_
    rintro e w1 ⟨rfl, bl1⟩
    have b1 := below_to bV bl1
    go_wp2
    go_ret
    exact ⟨rfl, b1⟩
end Go.Proofs.Ytefafkainfhhkaa
