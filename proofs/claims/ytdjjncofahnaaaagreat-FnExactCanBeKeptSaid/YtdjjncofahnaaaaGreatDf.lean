/- The walk of the law of CanBeKept. -/
import Derived.Test.YtdjjncofahnaaaaGreatDc
import Derived.Test.YtdjjncofahnaaaaGreatVb
import Derived.Test.YtdjjncofahnaaaaGreatVg
import Derived.Test.YtdjjncofahnaaaaGreatMf
namespace Go.Proofs.YtdjjncofahnaaaaGreat
open Go.RowKit
open Geo (H3)

theorem keep11 {V X : World} {B C : Nat} {a0 a1 a2 a3 a4 a5 a6 a7 b0 b1 b2 : Value} {T U : TypeId} (h : Blk V B #[a0, a1, a2, a3, a4, a5, a6, a7] T) (k : Blk V C #[b0, b1, b2] U) (hb : Below V.heap.size V X) :
    X.cell? ⟨B, 0, none⟩ = some a0 ∧ X.cell? ⟨B, 1, none⟩ = some a1 ∧ X.cell? ⟨B, 2, none⟩ = some a2 ∧ X.cell? ⟨B, 3, none⟩ = some a3 ∧ X.cell? ⟨B, 4, none⟩ = some a4 ∧ X.cell? ⟨B, 5, none⟩ = some a5 ∧ X.cell? ⟨B, 6, none⟩ = some a6 ∧ X.cell? ⟨B, 7, none⟩ = some a7 ∧ X.cell? ⟨C, 0, none⟩ = some b0 ∧ X.cell? ⟨C, 1, none⟩ = some b1 ∧ X.cell? ⟨C, 2, none⟩ = some b2 :=
  ⟨(h.to hb).c8_0, (h.to hb).c8_1, (h.to hb).c8_2, (h.to hb).c8_3, (h.to hb).c8_4, (h.to hb).c8_5, (h.to hb).c8_6, (h.to hb).c8_7, (k.to hb).cell0 rfl, (k.to hb).cell0 rfl, (k.to hb).cell0 rfl⟩
set_option maxRecDepth 100000 in
set_option maxHeartbeats 12800000 in
theorem law_ck (am : Option Addr) (nm cm : Nat) (zs : List Int) (q bx cy lo hi : Int) (an : Option Addr) (nn cn : Nat) (ps : List H3) (al : Option Addr) (nl cl : Nat) (qs : List H3) (sX sY sD : Int) (wsX : (Lit.int .i64 sX).wf = true) (wsY : (Lit.int .i64 sY).wf = true) (wsD : (Lit.int .i64 sD).wf = true) (w : World) (h64 : R64 q bx cy lo hi ps qs) (h1 : nm ≤ maxLen) (h2 : nn ≤ maxLen) (h3 : nl ≤ maxLen) (hA : RAt w am nm zs an nn ps al nl qs) :
    Calls Tryz.prog 10 #[.agg #[.slice am nm cm, .int .i64 q, .int .i64 bx, .int .i64 cy, .int .i64 lo, .int .i64 hi, .slice an nn cn, .slice al nl cl], .agg #[.int .i64 sX, .int .i64 sY, .int .i64 sD]] w fun e w' => e = .returned (.bool true) ∧ Below w.heap.size w w' := by
  have bV := below_bx2 (below_one w (.cells #[.slice am nm cm, .int .i64 q, .int .i64 bx, .int .i64 cy, .int .i64 lo, .int .i64 hi, .slice an nn cn, .slice al nl cl] 61)) (.cells #[.int .i64 sX, .int .i64 sY, .int .i64 sD] 71)
  have K0 := (blk_new w #[.slice am nm cm, .int .i64 q, .int .i64 bx, .int .i64 cy, .int .i64 lo, .int .i64 hi, .slice an nn cn, .slice al nl cl] 61 (b := w.heap.size) (by simp)).to (below_one _ (.cells #[.int .i64 sX, .int .i64 sY, .int .i64 sD] 71))
  have K1 := blk_new (w.alloc (.cells #[.slice am nm cm, .int .i64 q, .int .i64 bx, .int .i64 cy, .int .i64 lo, .int .i64 hi, .slice an nn cn, .slice al nl cl] 61)) #[.int .i64 sX, .int .i64 sY, .int .i64 sD] 71 (b := w.heap.size + 1) (by simp)
  by_cases hle : (nm : Int) + nn + nl ≤ 1048576
  · have HZ := Lib.hid (fun V => sz_room am nm cm q bx cy lo hi an nn cn al nl cl V h1 h2 h3 1048576 (by omega) (by omega) (1048576 - nm - nn - nl) (by rw [if_pos hle]))
    have HT := Lib.hid (fun V (h : Below w.heap.size w V) => to_room am nm cm zs q bx cy lo hi an nn cn ps al nl cl qs V (hA.below h) (by omega))
    have HE := Lib.hid (fun V am1 cm1 an1 cn1 al1 cl1 am2 cm2 an2 cn2 al2 cl2 (k1 : RAt V am1 nm zs an1 nn ps al1 nl qs) (k2 : RAt V am2 nm zs an2 nn ps al2 nl qs) => eq_room am1 nm cm1 zs q bx cy lo hi an1 nn cn1 ps al1 nl cl1 qs am2 cm2 an2 cn2 al2 cl2 V k1 k2 (by omega))
    have HS := Lib.hid (fun V am1 cm1 an1 cn1 al1 cl1 (k0 : RNil am1 nm cm1 an1 nn cn1 al1 nl cl1) (k1 : RAt V am1 nm zs an1 nn ps al1 nl qs) => spec_ck am1 nm cm1 zs q bx cy lo hi an1 nn cn1 ps al1 nl cl1 qs sX sY sD ⟨bounds_i64 wsX, bounds_i64 wsY, bounds_i64 wsD⟩ V k1 h64 (by omega) k0)
    have HI := Lib.hid (fun V am1 cm1 an1 cn1 al1 cl1 (k1 : RAt V am1 nm zs an1 nn ps al1 nl qs) => impl_ck am1 nm cm1 zs q bx cy lo hi an1 nn cn1 ps al1 nl cl1 qs sX sY sD ⟨bounds_i64 wsX, bounds_i64 wsY, bounds_i64 wsD⟩ V k1 h64 (by omega))
    generalize ckB zs q bx cy lo hi ps qs sX sY sD = R at *
    have hz1 : ¬ (1048576 - (nm : Int) - nn - nl < 0) := by omega
    clear wsX wsY wsD hA h64 h1 h2 h3
    go_enter Tryz.func10, Tryz.ntmps10
    have c0_0 := K0.c8_0
    have c0_1 := K0.c8_1
    have c0_2 := K0.c8_2
    have c0_3 := K0.c8_3
    have c0_4 := K0.c8_4
    have c0_5 := K0.c8_5
    have c0_6 := K0.c8_6
    have c0_7 := K0.c8_7
    go_wp2_with fail
    clear c0_0 c0_1 c0_2 c0_3 c0_4 c0_5 c0_6 c0_7
    generalize ((w.alloc (.cells #[.slice am nm cm, .int .i64 q, .int .i64 bx, .int .i64 cy, .int .i64 lo, .int .i64 hi, .slice an nn cn, .slice al nl cl] 61)).alloc (.cells #[.int .i64 sX, .int .i64 sY, .int .i64 sD] 71)) = V at *
    refine (HZ.out _).mono ?_
    rintro e w1 ⟨rfl, bl1⟩
    have P0_1 := K0.to bl1
    have P1_2 := K1.to bl1
    have b_3 := below_to bV bl1
    clear K0 K1 bV
    clear bl1 HZ
    go_wp2
    go_cut [6] from 14 to 19 (fun s6 wx => s6 = .bool R ∧ Below w1.heap.size w1 wx)
    case first =>
      go_region_held3 (fun w' => w'.cell? ⟨w.heap.size, 0, none⟩ = some (.slice am nm cm) ∧ w'.cell? ⟨w.heap.size, 1, none⟩ = some (.int .i64 q) ∧ w'.cell? ⟨w.heap.size, 2, none⟩ = some (.int .i64 bx) ∧ w'.cell? ⟨w.heap.size, 3, none⟩ = some (.int .i64 cy) ∧ w'.cell? ⟨w.heap.size, 4, none⟩ = some (.int .i64 lo) ∧ w'.cell? ⟨w.heap.size, 5, none⟩ = some (.int .i64 hi) ∧ w'.cell? ⟨w.heap.size, 6, none⟩ = some (.slice an nn cn) ∧ w'.cell? ⟨w.heap.size, 7, none⟩ = some (.slice al nl cl) ∧ w'.cell? ⟨w.heap.size + 1, 0, none⟩ = some (.int .i64 sX) ∧ w'.cell? ⟨w.heap.size + 1, 1, none⟩ = some (.int .i64 sY) ∧ w'.cell? ⟨w.heap.size + 1, 2, none⟩ = some (.int .i64 sD))
        ((refine keep11 P0_1 P1_2 ?_; repeat (first | exact Below.refl _ _ | refine below_drw ?_ | refine below_to ?_ (by assumption))))
        (first | (go_at_call 29; (with_reducible refine (HT.out _ ?_).mono ?_); (focus (repeat (first | exact b_3 | refine below_drw ?_ | refine below_to ?_ (by assumption)))); rintro e wR ⟨amR, cmR, anR, cnR, alR, clR, rfl, hoR, blR⟩) | (go_at_call 43; (with_reducible refine (to_spot sX sY sD _).mono ?_); rintro e wA ⟨rfl, blA⟩) | (go_at_call 42; (with_reducible refine (HS.out _ _ _ _ _ _ _ hoR.nil ?_).mono ?_); (focus ((refine hoR.at.below ?_); repeat (first | exact Below.refl _ _ | refine below_drw ?_ | refine below_to ?_ (by assumption)))); rintro e wC ⟨rfl, blC⟩))
      all_goals
        go_wp2_with fail
        go_meet
        refine ⟨rfl, ?_⟩
        refine below_to ?_ blC
        repeat (first | exact Below.refl _ _ | refine below_drw ?_ | refine below_to ?_ (by assumption))
    case rest =>
      obtain ⟨rfl, hb6⟩ := hcut
      rename World => wc
      have P0_4 := P0_1.to hb6
      have P1_5 := P1_2.to hb6
      have b_6 := below_to b_3 hb6
      clear P0_1 P1_2 b_3
      clear hb6
      have c0 := P0_4.c8_0
      have c1 := P0_4.c8_1
      have c2 := P0_4.c8_2
      have c3 := P0_4.c8_3
      have c4 := P0_4.c8_4
      have c5 := P0_4.c8_5
      have c6 := P0_4.c8_6
      have c7 := P0_4.c8_7
      go_wp2_with fail
      clear c0 c1 c2 c3 c4 c5 c6 c7
      refine (HT.out _ b_6).mono ?_
      rintro e w4 ⟨am4, cm4, an4, cn4, al4, cl4, rfl, ho4, bl4⟩
      have bX := below_to bl4 (below_one w4 (.cells #[.slice am4 nm cm4, .int .i64 q, .int .i64 bx, .int .i64 cy, .int .i64 lo, .int .i64 hi, .slice an4 nn cn4, .slice al4 nl cl4] 28))
      have KX := blk_new w4 #[.slice am4 nm cm4, .int .i64 q, .int .i64 bx, .int .i64 cy, .int .i64 lo, .int .i64 hi, .slice an4 nn cn4, .slice al4 nl cl4] 28 rfl
      have OX := Lib.hid (ho4.below (below_one w4 (.cells #[.slice am4 nm cm4, .int .i64 q, .int .i64 bx, .int .i64 cy, .int .i64 lo, .int .i64 hi, .slice an4 nn cn4, .slice al4 nl cl4] 28)))
      have P0_7 := P0_4.to bX
      have P1_8 := P1_5.to bX
      have b_9 := below_to b_6 bX
      clear P0_4 P1_5 b_6
      clear bX bl4 ho4
      go_wp2
      generalize w4.alloc (.cells #[.slice am4 nm cm4, .int .i64 q, .int .i64 bx, .int .i64 cy, .int .i64 lo, .int .i64 hi, .slice an4 nn cn4, .slice al4 nl cl4] 28) = X at *
      obtain ⟨ex, hex⟩ : ∃ b, w4.heap.size = b := ⟨_, rfl⟩
      rw [hex] at KX ⊢
      clear hex
      go_cut [8] from 21 to 25 (fun s6 wx => s6 = .bool R ∧ Below X.heap.size X wx)
      case first =>
        go_region_held3 (fun w' => w'.cell? ⟨ex, 0, none⟩ = some (.slice am4 nm cm4) ∧ w'.cell? ⟨ex, 1, none⟩ = some (.int .i64 q) ∧ w'.cell? ⟨ex, 2, none⟩ = some (.int .i64 bx) ∧ w'.cell? ⟨ex, 3, none⟩ = some (.int .i64 cy) ∧ w'.cell? ⟨ex, 4, none⟩ = some (.int .i64 lo) ∧ w'.cell? ⟨ex, 5, none⟩ = some (.int .i64 hi) ∧ w'.cell? ⟨ex, 6, none⟩ = some (.slice an4 nn cn4) ∧ w'.cell? ⟨ex, 7, none⟩ = some (.slice al4 nl cl4) ∧ w'.cell? ⟨w.heap.size + 1, 0, none⟩ = some (.int .i64 sX) ∧ w'.cell? ⟨w.heap.size + 1, 1, none⟩ = some (.int .i64 sY) ∧ w'.cell? ⟨w.heap.size + 1, 2, none⟩ = some (.int .i64 sD))
          ((refine keep11 KX P1_8 ?_; repeat (first | exact Below.refl _ _ | refine below_drw ?_ | refine below_to ?_ (by assumption))))
          (first | (go_at_call 43; (with_reducible refine (to_spot sX sY sD _).mono ?_); rintro e wA ⟨rfl, blA⟩) | (go_at_call 22; (with_reducible refine (HI.out _ _ _ _ _ _ _ ?_).mono ?_); (focus ((refine OX.out.at.below ?_); repeat (first | exact Below.refl _ _ | refine below_drw ?_ | refine below_to ?_ (by assumption)))); rintro e wC ⟨rfl, blC⟩))
        all_goals
          go_wp2_with fail
          go_meet
          refine ⟨rfl, ?_⟩
          refine below_to ?_ blC
          repeat (first | exact Below.refl _ _ | refine below_drw ?_ | refine below_to ?_ (by assumption))
      case rest =>
        obtain ⟨rfl, hb7⟩ := hcut
        rename World => w7
        have P0_10 := P0_7.to hb7
        have P1_11 := P1_8.to hb7
        have b_12 := below_to b_9 hb7
        have KX_13 := KX.to hb7
        have OX_14 := Lib.hid (OX.out.below hb7)
        clear P0_7 P1_8 b_9 KX OX
        clear hb7
        go_wp2
        go_region_held3 (fun w' => w'.cell? ⟨ex, 0, none⟩ = some (.slice am4 nm cm4) ∧ w'.cell? ⟨ex, 1, none⟩ = some (.int .i64 q) ∧ w'.cell? ⟨ex, 2, none⟩ = some (.int .i64 bx) ∧ w'.cell? ⟨ex, 3, none⟩ = some (.int .i64 cy) ∧ w'.cell? ⟨ex, 4, none⟩ = some (.int .i64 lo) ∧ w'.cell? ⟨ex, 5, none⟩ = some (.int .i64 hi) ∧ w'.cell? ⟨ex, 6, none⟩ = some (.slice an4 nn cn4) ∧ w'.cell? ⟨ex, 7, none⟩ = some (.slice al4 nl cl4) ∧ w'.cell? ⟨w.heap.size, 0, none⟩ = some (.slice am nm cm) ∧ w'.cell? ⟨w.heap.size, 1, none⟩ = some (.int .i64 q) ∧ w'.cell? ⟨w.heap.size, 2, none⟩ = some (.int .i64 bx) ∧ w'.cell? ⟨w.heap.size, 3, none⟩ = some (.int .i64 cy) ∧ w'.cell? ⟨w.heap.size, 4, none⟩ = some (.int .i64 lo) ∧ w'.cell? ⟨w.heap.size, 5, none⟩ = some (.int .i64 hi) ∧ w'.cell? ⟨w.heap.size, 6, none⟩ = some (.slice an nn cn) ∧ w'.cell? ⟨w.heap.size, 7, none⟩ = some (.slice al nl cl))
          ((refine room16n KX_13 P0_10 ?_; repeat (first | exact Below.refl _ _ | refine below_drw ?_ | refine below_to ?_ (by assumption))))
          (first | (go_at_call 29; (with_reducible refine (HT.out _ ?_).mono ?_); (focus (repeat (first | exact b_12 | refine below_drw ?_ | refine below_to ?_ (by assumption)))); rintro e w8 ⟨am7, cm7, an7, cn7, al7, cl7, rfl, ho8, bl8⟩) | (go_at_call 31; (with_reducible refine (HE.out _ _ _ _ _ _ _ _ _ _ _ _ _ ?_ ?_).mono ?_); (focus ((refine OX_14.out.at.below ?_); repeat (first | exact Below.refl _ _ | refine below_drw ?_ | refine below_to ?_ (by assumption)))); (focus ((refine ho8.at.below ?_); repeat (first | exact Below.refl _ _ | refine below_drw ?_ | refine below_to ?_ (by assumption)))); rintro e w9 ⟨rfl, bl9⟩))
        all_goals
          go_wp2
          go_ret
          refine ⟨rfl, ?_⟩
          repeat (first | exact b_12 | refine below_drw ?_ | refine below_to ?_ (by assumption))
  · have HZ := Lib.hid (fun V => sz_room am nm cm q bx cy lo hi an nn cn al nl cl V h1 h2 h3 1048576 (by omega) (by omega) (-1) (by rw [if_neg hle]))
    clear wsX wsY wsD hA h64 h1 h2 h3 hle
    go_enter Tryz.func10, Tryz.ntmps10
    have c0_0 := K0.c8_0
    have c0_1 := K0.c8_1
    have c0_2 := K0.c8_2
    have c0_3 := K0.c8_3
    have c0_4 := K0.c8_4
    have c0_5 := K0.c8_5
    have c0_6 := K0.c8_6
    have c0_7 := K0.c8_7
    go_wp2_with fail
    generalize ((w.alloc (.cells #[.slice am nm cm, .int .i64 q, .int .i64 bx, .int .i64 cy, .int .i64 lo, .int .i64 hi, .slice an nn cn, .slice al nl cl] 61)).alloc (.cells #[.int .i64 sX, .int .i64 sY, .int .i64 sD] 71)) = V at *
    refine (HZ.out _).mono ?_
    rintro e w1 ⟨rfl, bl1⟩
    have b1 := below_to bV bl1
    go_wp2
    go_ret
    exact ⟨rfl, b1⟩
end Go.Proofs.YtdjjncofahnaaaaGreat
