/- The walk of the law of NextSpot. -/
import Derived.Test.YtefafkainfhhkaaKo
namespace Go.Proofs.Ytefafkainfhhkaa
open Go.RowKit
open Geo (H3)

theorem room16n {V X : World} {B C : Nat} {a0 a1 a2 a3 a4 a5 a6 a7 b0 b1 b2 b3 b4 b5 b6 b7 : Value} {T U : TypeId} (h : Blk V B #[a0, a1, a2, a3, a4, a5, a6, a7] T) (k : Blk V C #[b0, b1, b2, b3, b4, b5, b6, b7] U) (hb : Below V.heap.size V X) :
    X.cell? ⟨B, 0, none⟩ = some a0 ∧ X.cell? ⟨B, 1, none⟩ = some a1 ∧ X.cell? ⟨B, 2, none⟩ = some a2 ∧ X.cell? ⟨B, 3, none⟩ = some a3 ∧ X.cell? ⟨B, 4, none⟩ = some a4 ∧ X.cell? ⟨B, 5, none⟩ = some a5 ∧ X.cell? ⟨B, 6, none⟩ = some a6 ∧ X.cell? ⟨B, 7, none⟩ = some a7 ∧ X.cell? ⟨C, 0, none⟩ = some b0 ∧ X.cell? ⟨C, 1, none⟩ = some b1 ∧ X.cell? ⟨C, 2, none⟩ = some b2 ∧ X.cell? ⟨C, 3, none⟩ = some b3 ∧ X.cell? ⟨C, 4, none⟩ = some b4 ∧ X.cell? ⟨C, 5, none⟩ = some b5 ∧ X.cell? ⟨C, 6, none⟩ = some b6 ∧ X.cell? ⟨C, 7, none⟩ = some b7 :=
  ⟨(h.to hb).c8_0, (h.to hb).c8_1, (h.to hb).c8_2, (h.to hb).c8_3, (h.to hb).c8_4, (h.to hb).c8_5, (h.to hb).c8_6, (h.to hb).c8_7, (k.to hb).c8_0, (k.to hb).c8_1, (k.to hb).c8_2, (k.to hb).c8_3, (k.to hb).c8_4, (k.to hb).c8_5, (k.to hb).c8_6, (k.to hb).c8_7⟩
/-- a spot lies in a box that is new since W -/
def BoxS (W : World) (a b c : Int) (v : Value) (wx : World) : Prop := ∃ g, v = .pointer (some ⟨g, 0, none⟩) ∧ W.heap.size ≤ g ∧ Blk wx g #[.int .i64 a, .int .i64 b, .int .i64 c] 60 ∧ Below W.heap.size W wx
theorem bn_next {W X Y : World} (h : Below W.heap.size W X) (k : Below X.heap.size X Y) : Below W.heap.size W Y := below_to h k
theorem BoxS.last {W wC : World} {a b c : Int} (hb : Below W.heap.size W wC) : BoxS W a b c (.pointer (some ⟨wC.heap.size, 0, none⟩)) (wC.alloc (.cells #[.int .i64 a, .int .i64 b, .int .i64 c] 60)) :=
  ⟨wC.heap.size, rfl, hb.size, blk_new wC _ _ rfl, below_bx2 hb _⟩
theorem BoxS.early {W U wC : World} {a b c x y z : Int} (hU : Below (U.alloc (.cells #[.int .i64 x, .int .i64 y, .int .i64 z] 60)).heap.size (U.alloc (.cells #[.int .i64 x, .int .i64 y, .int .i64 z] 60)) wC) (hW : W.heap.size ≤ U.heap.size) (hb : Below W.heap.size W wC) :
    BoxS W a b c (.pointer (some ⟨U.heap.size, 0, none⟩)) (((wC.setCell ⟨U.heap.size, 0, none⟩ (.int .i64 a)).setCell ⟨U.heap.size, 1, none⟩ (.int .i64 b)).setCell ⟨U.heap.size, 2, none⟩ (.int .i64 c)) :=
  ⟨U.heap.size, rfl, hW, heap_setCell_same _ _ 2 _ _ _ (heap_setCell_same _ _ 1 _ _ _ (heap_setCell_same _ _ 0 _ _ _ ((blk_new U _ _ rfl).to hU))), ((hb.setCell hW _).setCell hW _).setCell hW _⟩
set_option maxRecDepth 100000 in
set_option maxHeartbeats 12800000 in
theorem law_ns (am : Option Addr) (nm cm : Nat) (zs : List Int) (q bx cy lo hi : Int) (an : Option Addr) (nn cn : Nat) (ps : List H3) (al : Option Addr) (nl cl : Nat) (qs : List H3) (sX sY sD uN uD tX tY tD : Int) (wsX : (Lit.int .i64 sX).wf = true) (wsY : (Lit.int .i64 sY).wf = true) (wsD : (Lit.int .i64 sD).wf = true) (wuN : (Lit.int .i64 uN).wf = true) (wuD : (Lit.int .i64 uD).wf = true) (wtX : (Lit.int .i64 tX).wf = true) (wtY : (Lit.int .i64 tY).wf = true) (wtD : (Lit.int .i64 tD).wf = true) (w : World) (h64 : R64 q bx cy lo hi ps qs) (h1 : nm ≤ maxLen) (h2 : nn ≤ maxLen) (h3 : nl ≤ maxLen) (hA : RAt w am nm zs an nn ps al nl qs) :
    Calls Try.prog 8 #[.agg #[.slice am nm cm, .int .i64 q, .int .i64 bx, .int .i64 cy, .int .i64 lo, .int .i64 hi, .slice an nn cn, .slice al nl cl], .agg #[.int .i64 sX, .int .i64 sY, .int .i64 sD], .agg #[.int .i64 uN, .int .i64 uD], .agg #[.int .i64 tX, .int .i64 tY, .int .i64 tD]] w fun e w' => e = .returned (.bool true) ∧ Below w.heap.size w w' := by
  have bV := (below_bx2 (below_bx2 (below_bx2 (below_one w (.cells #[.slice am nm cm, .int .i64 q, .int .i64 bx, .int .i64 cy, .int .i64 lo, .int .i64 hi, .slice an nn cn, .slice al nl cl] 48)) (.cells #[.int .i64 sX, .int .i64 sY, .int .i64 sD] 58)) (.cells #[.int .i64 uN, .int .i64 uD] 59)) (.cells #[.int .i64 tX, .int .i64 tY, .int .i64 tD] 58))
  have K0 := ((((blk_new w #[.slice am nm cm, .int .i64 q, .int .i64 bx, .int .i64 cy, .int .i64 lo, .int .i64 hi, .slice an nn cn, .slice al nl cl] 48 (b := w.heap.size) (by simp)).to (below_one _ (.cells #[.int .i64 sX, .int .i64 sY, .int .i64 sD] 58))).to (below_one _ (.cells #[.int .i64 uN, .int .i64 uD] 59))).to (below_one _ (.cells #[.int .i64 tX, .int .i64 tY, .int .i64 tD] 58)))
  have K1 := (((blk_new (w.alloc (.cells #[.slice am nm cm, .int .i64 q, .int .i64 bx, .int .i64 cy, .int .i64 lo, .int .i64 hi, .slice an nn cn, .slice al nl cl] 48)) #[.int .i64 sX, .int .i64 sY, .int .i64 sD] 58 (b := w.heap.size + 1) (by simp)).to (below_one _ (.cells #[.int .i64 uN, .int .i64 uD] 59))).to (below_one _ (.cells #[.int .i64 tX, .int .i64 tY, .int .i64 tD] 58)))
  have K2 := ((blk_new ((w.alloc (.cells #[.slice am nm cm, .int .i64 q, .int .i64 bx, .int .i64 cy, .int .i64 lo, .int .i64 hi, .slice an nn cn, .slice al nl cl] 48)).alloc (.cells #[.int .i64 sX, .int .i64 sY, .int .i64 sD] 58)) #[.int .i64 uN, .int .i64 uD] 59 (b := w.heap.size + 2) (by simp)).to (below_one _ (.cells #[.int .i64 tX, .int .i64 tY, .int .i64 tD] 58)))
  have K3 := (blk_new (((w.alloc (.cells #[.slice am nm cm, .int .i64 q, .int .i64 bx, .int .i64 cy, .int .i64 lo, .int .i64 hi, .slice an nn cn, .slice al nl cl] 48)).alloc (.cells #[.int .i64 sX, .int .i64 sY, .int .i64 sD] 58)).alloc (.cells #[.int .i64 uN, .int .i64 uD] 59)) #[.int .i64 tX, .int .i64 tY, .int .i64 tD] 58 (b := w.heap.size + 3) (by simp))
  by_cases hle : (nm : Int) + nn + nl ≤ 1048576
  · have HZ := Lib.hid (fun V => sz_room am nm cm q bx cy lo hi an nn cn al nl cl V h1 h2 h3 1048576 (by omega) (by omega) (1048576 - nm - nn - nl) (by rw [if_pos hle]))
    have HT := Lib.hid (fun V (h : Below w.heap.size w V) => to_room am nm cm zs q bx cy lo hi an nn cn ps al nl cl qs V (hA.below h) (by omega))
    have HE := Lib.hid (fun V am1 cm1 an1 cn1 al1 cl1 am2 cm2 an2 cn2 al2 cl2 (k1 : RAt V am1 nm zs an1 nn ps al1 nl qs) (k2 : RAt V am2 nm zs an2 nn ps al2 nl qs) => eq_room am1 nm cm1 zs q bx cy lo hi an1 nn cn1 ps al1 nl cl1 qs am2 cm2 an2 cn2 al2 cl2 V k1 k2 (by omega))
    have HS := Lib.hid (fun V am1 cm1 an1 cn1 al1 cl1 (k0 : RNil am1 nm cm1 an1 nn cn1 al1 nl cl1) (k1 : RAt V am1 nm zs an1 nn ps al1 nl qs) => spec_ns am1 nm cm1 zs q bx cy lo hi an1 nn cn1 ps al1 nl cl1 qs sX sY sD uN uD tX tY tD V k1 h64 ⟨bounds_i64 wsX, bounds_i64 wsY, bounds_i64 wsD⟩ ⟨bounds_i64 wuN, bounds_i64 wuD⟩ ⟨bounds_i64 wtX, bounds_i64 wtY, bounds_i64 wtD⟩ (by omega) k0)
    have HI := Lib.hid (fun V am1 cm1 an1 cn1 al1 cl1 (k1 : RAt V am1 nm zs an1 nn ps al1 nl qs) => impl_ns am1 nm cm1 zs q bx cy lo hi an1 nn cn1 ps al1 nl cl1 qs sX sY sD uN uD tX tY tD V k1 h64 ⟨bounds_i64 wsX, bounds_i64 wsY, bounds_i64 wsD⟩ ⟨bounds_i64 wuN, bounds_i64 wuD⟩ ⟨bounds_i64 wtX, bounds_i64 wtY, bounds_i64 wtD⟩ (by omega))
    obtain ⟨X, Y, D, R, hv⟩ := ns_ex zs q bx cy lo hi ps qs sX sY sD uN uD tX tY tD
    rw [hv] at HS HI
    have hz1 : ¬ (1048576 - (nm : Int) - nn - nl < 0) := by omega
    clear hA h64 h1 h2 h3 hv wsX wsY wsD wuN wuD wtX wtY wtD
    go_enter Try.func8, Try.ntmps8
    have k0 := K0.c8_0
    have k1 := K0.c8_1
    have k2 := K0.c8_2
    have k3 := K0.c8_3
    have k4 := K0.c8_4
    have k5 := K0.c8_5
    have k6 := K0.c8_6
    have k7 := K0.c8_7
    go_wp2_with fail
    generalize ((((w.alloc (.cells #[.slice am nm cm, .int .i64 q, .int .i64 bx, .int .i64 cy, .int .i64 lo, .int .i64 hi, .slice an nn cn, .slice al nl cl] 48)).alloc (.cells #[.int .i64 sX, .int .i64 sY, .int .i64 sD] 58)).alloc (.cells #[.int .i64 uN, .int .i64 uD] 59)).alloc (.cells #[.int .i64 tX, .int .i64 tY, .int .i64 tD] 58)) = V at *
    refine (HZ.out _).mono ?_
    rintro e w1 ⟨rfl, bl1⟩
    have b1 := below_to bV bl1
    have L0 := K0.to bl1
    have L1 := K1.to bl1
    have L2 := K2.to bl1
    have L3 := K3.to bl1
    clear k0 k1 k2 k3 k4 k5 k6 k7
    clear bV K0 K1 K2 K3 bl1 HZ
    go_wp2
    go_cut [10, 11] from 21 to 31 (fun s10 s11 wx => BoxS w1 X Y D s10 wx ∧ s11 = .bool R)
    case first =>
      go_region_held3 (fun w' => w'.cell? ⟨w.heap.size, 0, none⟩ = some (.slice am nm cm) ∧ w'.cell? ⟨w.heap.size, 1, none⟩ = some (.int .i64 q) ∧ w'.cell? ⟨w.heap.size, 2, none⟩ = some (.int .i64 bx) ∧ w'.cell? ⟨w.heap.size, 3, none⟩ = some (.int .i64 cy) ∧ w'.cell? ⟨w.heap.size, 4, none⟩ = some (.int .i64 lo) ∧ w'.cell? ⟨w.heap.size, 5, none⟩ = some (.int .i64 hi) ∧ w'.cell? ⟨w.heap.size, 6, none⟩ = some (.slice an nn cn) ∧ w'.cell? ⟨w.heap.size, 7, none⟩ = some (.slice al nl cl) ∧ w'.cell? ⟨w.heap.size + 1, 0, none⟩ = some (.int .i64 sX) ∧ w'.cell? ⟨w.heap.size + 1, 1, none⟩ = some (.int .i64 sY) ∧ w'.cell? ⟨w.heap.size + 1, 2, none⟩ = some (.int .i64 sD) ∧ w'.cell? ⟨w.heap.size + 2, 0, none⟩ = some (.int .i64 uN) ∧ w'.cell? ⟨w.heap.size + 2, 1, none⟩ = some (.int .i64 uD) ∧ w'.cell? ⟨w.heap.size + 3, 0, none⟩ = some (.int .i64 tX) ∧ w'.cell? ⟨w.heap.size + 3, 1, none⟩ = some (.int .i64 tY) ∧ w'.cell? ⟨w.heap.size + 3, 2, none⟩ = some (.int .i64 tD))
        ((refine ns_keep L0 L1 L2 L3 ?_; repeat (first | exact Below.refl _ _ | refine Below.setCell ?_ (by first | (simp; done) | (simp; omega)) _ | refine below_bx2 ?_ _ | refine below_drw ?_ | refine below_to ?_ (by assumption))))
        (first | (go_at_call 30; (with_reducible refine (HT.out _ ?_).mono ?_); (focus (repeat (first | exact b1 | refine below_bx2 ?_ _ | refine below_drw ?_ | refine below_to ?_ (by assumption)))); rintro e wR ⟨am2, cm2, an2, cn2, al2, cl2, rfl, ho2, blR⟩; have hsR := blR.size; (try simp at hsR)) | (go_at_call 36; (with_reducible refine (to_spot sX sY sD _).mono ?_); rintro e wA ⟨rfl, blA⟩; have hsA := blA.size; (try simp at hsA)) | (go_at_call 36; (with_reducible refine (to_spot tX tY tD _).mono ?_); rintro e wB ⟨rfl, blB⟩; have hsB := blB.size; (try simp at hsB)) | (go_at_call 37; (with_reducible refine (to_ratio uN uD _).mono ?_); rintro e wU ⟨rfl, blU⟩; have hsU := blU.size; (try simp at hsU)) | (go_at_call 35; (with_reducible refine (HS.out _ _ _ _ _ _ _ ho2.nil ?_).mono ?_); (focus ((refine ho2.at.below ?_); repeat (first | exact Below.refl _ _ | refine below_bx2 ?_ _ | refine below_drw ?_ | refine below_to ?_ (by assumption)))); rintro e wC ⟨rfl, blC⟩; obtain ⟨hcR, hfR⟩ := bcl3 (bn_next (Y := wC) blR (by refine below_to ?_ blC; repeat (first | exact Below.refl _ _ | refine below_bx2 ?_ _ | refine below_drw ?_ | refine below_to ?_ (by assumption)))); obtain ⟨hcA, hfA⟩ := bcl3 (bn_next (Y := wC) blA (by refine below_to ?_ blC; repeat (first | exact Below.refl _ _ | refine below_bx2 ?_ _ | refine below_drw ?_ | refine below_to ?_ (by assumption)))); obtain ⟨hcU, hfU⟩ := bcl3 (bn_next (Y := wC) blU (by refine below_to ?_ blC; repeat (first | exact Below.refl _ _ | refine below_bx2 ?_ _ | refine below_drw ?_ | refine below_to ?_ (by assumption)))); obtain ⟨hcB, hfB⟩ := bcl3 (bn_next (Y := wC) blB (by refine below_to ?_ blC; repeat (first | exact Below.refl _ _ | refine below_bx2 ?_ _ | refine below_drw ?_ | refine below_to ?_ (by assumption)))); obtain ⟨hcC, hfC⟩ := bcl3 blC; have hsC := blC.size; (try simp at hsC)))
      all_goals
        go_wp2_with fail
        go_meet
        refine ⟨?_, rfl⟩
        have hbC : Below w1.heap.size w1 wC := (by refine below_to ?_ blC; repeat (first | exact Below.refl _ _ | refine Below.setCell ?_ (by first | (simp; done) | (simp; omega)) _ | refine below_bx2 ?_ _ | refine below_drw ?_ | refine below_to ?_ (by assumption)))
        first
          | with_reducible exact BoxS.last hbC
          | (refine BoxS.early (U := w1) (x := 0) (y := 0) (z := 0) ?_ ?_ hbC; (focus (first | exact blC | (refine below_to ?_ blC; repeat (first | exact Below.refl _ _ | refine Below.setCell ?_ (by first | (simp; done) | (simp; omega)) _ | refine below_bx2 ?_ _ | refine below_drw ?_ | refine below_to ?_ (by assumption))))); (focus (first | exact Nat.le_refl _ | omega | (simp; omega))))
          | (refine BoxS.early (U := w1.drew) (x := 0) (y := 0) (z := 0) ?_ ?_ hbC; (focus (first | exact blC | (refine below_to ?_ blC; repeat (first | exact Below.refl _ _ | refine Below.setCell ?_ (by first | (simp; done) | (simp; omega)) _ | refine below_bx2 ?_ _ | refine below_drw ?_ | refine below_to ?_ (by assumption))))); (focus (first | exact Nat.le_refl _ | omega | (simp; omega))))
          | (refine BoxS.early (U := wR) (x := 0) (y := 0) (z := 0) ?_ ?_ hbC; (focus (first | exact blC | (refine below_to ?_ blC; repeat (first | exact Below.refl _ _ | refine Below.setCell ?_ (by first | (simp; done) | (simp; omega)) _ | refine below_bx2 ?_ _ | refine below_drw ?_ | refine below_to ?_ (by assumption))))); (focus (first | exact Nat.le_refl _ | omega | (simp; omega))))
          | (refine BoxS.early (U := wR.drew) (x := 0) (y := 0) (z := 0) ?_ ?_ hbC; (focus (first | exact blC | (refine below_to ?_ blC; repeat (first | exact Below.refl _ _ | refine Below.setCell ?_ (by first | (simp; done) | (simp; omega)) _ | refine below_bx2 ?_ _ | refine below_drw ?_ | refine below_to ?_ (by assumption))))); (focus (first | exact Nat.le_refl _ | omega | (simp; omega))))
          | (refine BoxS.early (U := wA) (x := 0) (y := 0) (z := 0) ?_ ?_ hbC; (focus (first | exact blC | (refine below_to ?_ blC; repeat (first | exact Below.refl _ _ | refine Below.setCell ?_ (by first | (simp; done) | (simp; omega)) _ | refine below_bx2 ?_ _ | refine below_drw ?_ | refine below_to ?_ (by assumption))))); (focus (first | exact Nat.le_refl _ | omega | (simp; omega))))
          | (refine BoxS.early (U := wA.drew) (x := 0) (y := 0) (z := 0) ?_ ?_ hbC; (focus (first | exact blC | (refine below_to ?_ blC; repeat (first | exact Below.refl _ _ | refine Below.setCell ?_ (by first | (simp; done) | (simp; omega)) _ | refine below_bx2 ?_ _ | refine below_drw ?_ | refine below_to ?_ (by assumption))))); (focus (first | exact Nat.le_refl _ | omega | (simp; omega))))
          | (refine BoxS.early (U := wU) (x := 0) (y := 0) (z := 0) ?_ ?_ hbC; (focus (first | exact blC | (refine below_to ?_ blC; repeat (first | exact Below.refl _ _ | refine Below.setCell ?_ (by first | (simp; done) | (simp; omega)) _ | refine below_bx2 ?_ _ | refine below_drw ?_ | refine below_to ?_ (by assumption))))); (focus (first | exact Nat.le_refl _ | omega | (simp; omega))))
          | (refine BoxS.early (U := wU.drew) (x := 0) (y := 0) (z := 0) ?_ ?_ hbC; (focus (first | exact blC | (refine below_to ?_ blC; repeat (first | exact Below.refl _ _ | refine Below.setCell ?_ (by first | (simp; done) | (simp; omega)) _ | refine below_bx2 ?_ _ | refine below_drw ?_ | refine below_to ?_ (by assumption))))); (focus (first | exact Nat.le_refl _ | omega | (simp; omega))))
          | (refine BoxS.early (U := wB) (x := 0) (y := 0) (z := 0) ?_ ?_ hbC; (focus (first | exact blC | (refine below_to ?_ blC; repeat (first | exact Below.refl _ _ | refine Below.setCell ?_ (by first | (simp; done) | (simp; omega)) _ | refine below_bx2 ?_ _ | refine below_drw ?_ | refine below_to ?_ (by assumption))))); (focus (first | exact Nat.le_refl _ | omega | (simp; omega))))
          | (refine BoxS.early (U := wB.drew) (x := 0) (y := 0) (z := 0) ?_ ?_ hbC; (focus (first | exact blC | (refine below_to ?_ blC; repeat (first | exact Below.refl _ _ | refine Below.setCell ?_ (by first | (simp; done) | (simp; omega)) _ | refine below_bx2 ?_ _ | refine below_drw ?_ | refine below_to ?_ (by assumption))))); (focus (first | exact Nat.le_refl _ | omega | (simp; omega))))
    case rest =>
    obtain ⟨⟨gw, rfl, hgw, KW, blc⟩, rfl⟩ := hcut
    rename World => w4
    have b4 := below_to b1 blc
    have M0 := L0.to blc
    have M1 := L1.to blc
    have M2 := L2.to blc
    have M3 := L3.to blc
    clear b1 L0 L1 L2 L3 blc HS hgw
    have k0 := M0.c8_0
    have k1 := M0.c8_1
    have k2 := M0.c8_2
    have k3 := M0.c8_3
    have k4 := M0.c8_4
    have k5 := M0.c8_5
    have k6 := M0.c8_6
    have k7 := M0.c8_7
    go_wp2_with fail
    refine (HT.out _ b4).mono ?_
    rintro e w5 ⟨am4, cm4, an4, cn4, al4, cl4, rfl, ho5, bl5⟩
    have bX := below_to bl5 (below_one w5 (.cells #[.slice am4 nm cm4, .int .i64 q, .int .i64 bx, .int .i64 cy, .int .i64 lo, .int .i64 hi, .slice an4 nn cn4, .slice al4 nl cl4] 52))
    have b5 := below_to b4 bX
    have N0 := M0.to bX
    have N1 := M1.to bX
    have N2 := M2.to bX
    have N3 := M3.to bX
    have KW5 := KW.to bX
    have KX := blk_new w5 #[.slice am4 nm cm4, .int .i64 q, .int .i64 bx, .int .i64 cy, .int .i64 lo, .int .i64 hi, .slice an4 nn cn4, .slice al4 nl cl4] 52 rfl
    have O5 := Lib.hid (ho5.below (below_one w5 (.cells #[.slice am4 nm cm4, .int .i64 q, .int .i64 bx, .int .i64 cy, .int .i64 lo, .int .i64 hi, .slice an4 nn cn4, .slice al4 nl cl4] 52)))
    clear k0 k1 k2 k3 k4 k5 k6 k7
    clear b4 M0 M1 M2 M3 KW bX bl5 ho5
    go_wp2
    generalize w5.alloc (.cells #[.slice am4 nm cm4, .int .i64 q, .int .i64 bx, .int .i64 cy, .int .i64 lo, .int .i64 hi, .slice an4 nn cn4, .slice al4 nl cl4] 52) = w6 at *
    generalize w5.heap.size = bx4 at *
    go_cut [13, 14] from 35 to 44 (fun s10 s11 wx => BoxS w6 X Y D s10 wx ∧ s11 = .bool R)
    case first =>
      go_region_held3 (fun w' => w'.cell? ⟨bx4, 0, none⟩ = some (.slice am4 nm cm4) ∧ w'.cell? ⟨bx4, 1, none⟩ = some (.int .i64 q) ∧ w'.cell? ⟨bx4, 2, none⟩ = some (.int .i64 bx) ∧ w'.cell? ⟨bx4, 3, none⟩ = some (.int .i64 cy) ∧ w'.cell? ⟨bx4, 4, none⟩ = some (.int .i64 lo) ∧ w'.cell? ⟨bx4, 5, none⟩ = some (.int .i64 hi) ∧ w'.cell? ⟨bx4, 6, none⟩ = some (.slice an4 nn cn4) ∧ w'.cell? ⟨bx4, 7, none⟩ = some (.slice al4 nl cl4) ∧ w'.cell? ⟨w.heap.size + 1, 0, none⟩ = some (.int .i64 sX) ∧ w'.cell? ⟨w.heap.size + 1, 1, none⟩ = some (.int .i64 sY) ∧ w'.cell? ⟨w.heap.size + 1, 2, none⟩ = some (.int .i64 sD) ∧ w'.cell? ⟨w.heap.size + 2, 0, none⟩ = some (.int .i64 uN) ∧ w'.cell? ⟨w.heap.size + 2, 1, none⟩ = some (.int .i64 uD) ∧ w'.cell? ⟨w.heap.size + 3, 0, none⟩ = some (.int .i64 tX) ∧ w'.cell? ⟨w.heap.size + 3, 1, none⟩ = some (.int .i64 tY) ∧ w'.cell? ⟨w.heap.size + 3, 2, none⟩ = some (.int .i64 tD))
        ((refine ns_keep KX N1 N2 N3 ?_; repeat (first | exact Below.refl _ _ | refine Below.setCell ?_ (by first | (simp; done) | (simp; omega)) _ | refine below_bx2 ?_ _ | refine below_drw ?_ | refine below_to ?_ (by assumption))))
        (first | (go_at_call 36; (with_reducible refine (to_spot sX sY sD _).mono ?_); rintro e wA ⟨rfl, blA⟩; have hsA := blA.size; (try simp at hsA)) | (go_at_call 36; (with_reducible refine (to_spot tX tY tD _).mono ?_); rintro e wB ⟨rfl, blB⟩; have hsB := blB.size; (try simp at hsB)) | (go_at_call 37; (with_reducible refine (to_ratio uN uD _).mono ?_); rintro e wU ⟨rfl, blU⟩; have hsU := blU.size; (try simp at hsU)) | (go_at_call 38; (with_reducible refine (HI.out _ _ _ _ _ _ _ ?_).mono ?_); (focus ((refine O5.out.at.below ?_); repeat (first | exact Below.refl _ _ | refine below_bx2 ?_ _ | refine below_drw ?_ | refine below_to ?_ (by assumption)))); rintro e wC ⟨rfl, blC⟩; obtain ⟨hcA, hfA⟩ := bcl3 (bn_next (Y := wC) blA (by refine below_to ?_ blC; repeat (first | exact Below.refl _ _ | refine below_bx2 ?_ _ | refine below_drw ?_ | refine below_to ?_ (by assumption)))); obtain ⟨hcU, hfU⟩ := bcl3 (bn_next (Y := wC) blU (by refine below_to ?_ blC; repeat (first | exact Below.refl _ _ | refine below_bx2 ?_ _ | refine below_drw ?_ | refine below_to ?_ (by assumption)))); obtain ⟨hcB, hfB⟩ := bcl3 (bn_next (Y := wC) blB (by refine below_to ?_ blC; repeat (first | exact Below.refl _ _ | refine below_bx2 ?_ _ | refine below_drw ?_ | refine below_to ?_ (by assumption)))); obtain ⟨hcC, hfC⟩ := bcl3 blC; have hsC := blC.size; (try simp at hsC)))
      all_goals
        go_wp2_with fail
        go_meet
        refine ⟨?_, rfl⟩
        have hbC : Below w6.heap.size w6 wC := (by refine below_to ?_ blC; repeat (first | exact Below.refl _ _ | refine Below.setCell ?_ (by first | (simp; done) | (simp; omega)) _ | refine below_bx2 ?_ _ | refine below_drw ?_ | refine below_to ?_ (by assumption)))
        first
          | with_reducible exact BoxS.last hbC
          | (refine BoxS.early (U := w6) (x := 0) (y := 0) (z := 0) ?_ ?_ hbC; (focus (first | exact blC | (refine below_to ?_ blC; repeat (first | exact Below.refl _ _ | refine Below.setCell ?_ (by first | (simp; done) | (simp; omega)) _ | refine below_bx2 ?_ _ | refine below_drw ?_ | refine below_to ?_ (by assumption))))); (focus (first | exact Nat.le_refl _ | omega | (simp; omega))))
          | (refine BoxS.early (U := w6.drew) (x := 0) (y := 0) (z := 0) ?_ ?_ hbC; (focus (first | exact blC | (refine below_to ?_ blC; repeat (first | exact Below.refl _ _ | refine Below.setCell ?_ (by first | (simp; done) | (simp; omega)) _ | refine below_bx2 ?_ _ | refine below_drw ?_ | refine below_to ?_ (by assumption))))); (focus (first | exact Nat.le_refl _ | omega | (simp; omega))))
          | (refine BoxS.early (U := wA) (x := 0) (y := 0) (z := 0) ?_ ?_ hbC; (focus (first | exact blC | (refine below_to ?_ blC; repeat (first | exact Below.refl _ _ | refine Below.setCell ?_ (by first | (simp; done) | (simp; omega)) _ | refine below_bx2 ?_ _ | refine below_drw ?_ | refine below_to ?_ (by assumption))))); (focus (first | exact Nat.le_refl _ | omega | (simp; omega))))
          | (refine BoxS.early (U := wA.drew) (x := 0) (y := 0) (z := 0) ?_ ?_ hbC; (focus (first | exact blC | (refine below_to ?_ blC; repeat (first | exact Below.refl _ _ | refine Below.setCell ?_ (by first | (simp; done) | (simp; omega)) _ | refine below_bx2 ?_ _ | refine below_drw ?_ | refine below_to ?_ (by assumption))))); (focus (first | exact Nat.le_refl _ | omega | (simp; omega))))
          | (refine BoxS.early (U := wU) (x := 0) (y := 0) (z := 0) ?_ ?_ hbC; (focus (first | exact blC | (refine below_to ?_ blC; repeat (first | exact Below.refl _ _ | refine Below.setCell ?_ (by first | (simp; done) | (simp; omega)) _ | refine below_bx2 ?_ _ | refine below_drw ?_ | refine below_to ?_ (by assumption))))); (focus (first | exact Nat.le_refl _ | omega | (simp; omega))))
          | (refine BoxS.early (U := wU.drew) (x := 0) (y := 0) (z := 0) ?_ ?_ hbC; (focus (first | exact blC | (refine below_to ?_ blC; repeat (first | exact Below.refl _ _ | refine Below.setCell ?_ (by first | (simp; done) | (simp; omega)) _ | refine below_bx2 ?_ _ | refine below_drw ?_ | refine below_to ?_ (by assumption))))); (focus (first | exact Nat.le_refl _ | omega | (simp; omega))))
          | (refine BoxS.early (U := wB) (x := 0) (y := 0) (z := 0) ?_ ?_ hbC; (focus (first | exact blC | (refine below_to ?_ blC; repeat (first | exact Below.refl _ _ | refine Below.setCell ?_ (by first | (simp; done) | (simp; omega)) _ | refine below_bx2 ?_ _ | refine below_drw ?_ | refine below_to ?_ (by assumption))))); (focus (first | exact Nat.le_refl _ | omega | (simp; omega))))
          | (refine BoxS.early (U := wB.drew) (x := 0) (y := 0) (z := 0) ?_ ?_ hbC; (focus (first | exact blC | (refine below_to ?_ blC; repeat (first | exact Below.refl _ _ | refine Below.setCell ?_ (by first | (simp; done) | (simp; omega)) _ | refine below_bx2 ?_ _ | refine below_drw ?_ | refine below_to ?_ (by assumption))))); (focus (first | exact Nat.le_refl _ | omega | (simp; omega))))
    case rest =>
    obtain ⟨⟨gg, rfl, hgg, KG, blc⟩, rfl⟩ := hcut
    rename World => w7
    have b7 := below_to b5 blc
    have M0 := N0.to blc
    have X7 := KX.to blc
    have KW7 := KW5.to blc
    have O7 := Lib.hid (O5.out.below blc)
    clear b5 N0 N1 N2 N3 KW5 KX O5 blc HI hgg
    have u0 := KG.cell0 (i := 0) (v := .int .i64 X) rfl
    have v0 := KW7.cell0 (i := 0) (v := .int .i64 X) rfl
    have u1 := KG.cell0 (i := 1) (v := .int .i64 Y) rfl
    have v1 := KW7.cell0 (i := 1) (v := .int .i64 Y) rfl
    have u2 := KG.cell0 (i := 2) (v := .int .i64 D) rfl
    have v2 := KW7.cell0 (i := 2) (v := .int .i64 D) rfl
    go_wp2_with fail
    refine (eq_spot _ _ _ _).mono ?_
    rintro e w8 ⟨rfl, bl8⟩
    have b8 := below_to b7 bl8
    have K8 := M0.to bl8
    have X8 := X7.to bl8
    have O8 := Lib.hid (O7.out.below bl8)
    clear b7 M0 X7 KW7 KG O7 bl8 u0 u1 u2 v0 v1 v2
    go_wp2
    go_region_held3 (fun w' => w'.cell? ⟨bx4, 0, none⟩ = some (.slice am4 nm cm4) ∧ w'.cell? ⟨bx4, 1, none⟩ = some (.int .i64 q) ∧ w'.cell? ⟨bx4, 2, none⟩ = some (.int .i64 bx) ∧ w'.cell? ⟨bx4, 3, none⟩ = some (.int .i64 cy) ∧ w'.cell? ⟨bx4, 4, none⟩ = some (.int .i64 lo) ∧ w'.cell? ⟨bx4, 5, none⟩ = some (.int .i64 hi) ∧ w'.cell? ⟨bx4, 6, none⟩ = some (.slice an4 nn cn4) ∧ w'.cell? ⟨bx4, 7, none⟩ = some (.slice al4 nl cl4) ∧ w'.cell? ⟨w.heap.size, 0, none⟩ = some (.slice am nm cm) ∧ w'.cell? ⟨w.heap.size, 1, none⟩ = some (.int .i64 q) ∧ w'.cell? ⟨w.heap.size, 2, none⟩ = some (.int .i64 bx) ∧ w'.cell? ⟨w.heap.size, 3, none⟩ = some (.int .i64 cy) ∧ w'.cell? ⟨w.heap.size, 4, none⟩ = some (.int .i64 lo) ∧ w'.cell? ⟨w.heap.size, 5, none⟩ = some (.int .i64 hi) ∧ w'.cell? ⟨w.heap.size, 6, none⟩ = some (.slice an nn cn) ∧ w'.cell? ⟨w.heap.size, 7, none⟩ = some (.slice al nl cl))
      ((refine room16n X8 K8 ?_; repeat (first | exact Below.refl _ _ | refine below_drw ?_ | refine below_to ?_ (by assumption))))
      (first | (go_at_call 30; (with_reducible refine (HT.out _ ?_).mono ?_); (focus (repeat (first | exact b8 | refine below_drw ?_ | refine below_to ?_ (by assumption)))); rintro e w9 ⟨am7, cm7, an7, cn7, al7, cl7, rfl, ho7, bl9⟩) | (go_at_call 32; (with_reducible refine (HE.out _ _ _ _ _ _ _ _ _ _ _ _ _ ?_ ?_).mono ?_); (focus ((refine O8.out.at.below ?_); repeat (first | exact Below.refl _ _ | refine below_drw ?_ | refine below_to ?_ (by assumption)))); (focus (exact ho7.at)); rintro e w10 ⟨rfl, bl10⟩))
    all_goals
      go_wp2
      go_ret
      refine ⟨rfl, ?_⟩
      repeat (first | exact b8 | refine below_drw ?_ | refine below_to ?_ (by assumption))
  · have HZ := Lib.hid (fun V => sz_room am nm cm q bx cy lo hi an nn cn al nl cl V h1 h2 h3 1048576 (by omega) (by omega) (-1) (by rw [if_neg hle]))
    clear hA h64 h1 h2 h3 hle
    go_enter Try.func8, Try.ntmps8
    have k0 := K0.c8_0
    have k1 := K0.c8_1
    have k2 := K0.c8_2
    have k3 := K0.c8_3
    have k4 := K0.c8_4
    have k5 := K0.c8_5
    have k6 := K0.c8_6
    have k7 := K0.c8_7
    go_wp2_with fail
    generalize ((((w.alloc (.cells #[.slice am nm cm, .int .i64 q, .int .i64 bx, .int .i64 cy, .int .i64 lo, .int .i64 hi, .slice an nn cn, .slice al nl cl] 48)).alloc (.cells #[.int .i64 sX, .int .i64 sY, .int .i64 sD] 58)).alloc (.cells #[.int .i64 uN, .int .i64 uD] 59)).alloc (.cells #[.int .i64 tX, .int .i64 tY, .int .i64 tD] 58)) = V at *
    refine (HZ.out _).mono ?_
    rintro e w1 ⟨rfl, bl1⟩
    have b1 := below_to bV bl1
    go_wp2
    go_ret
    exact ⟨rfl, b1⟩
end Go.Proofs.Ytefafkainfhhkaa
