/- The walk of SameRegion's law over the translation. -/
import Derived.Test.YthpnbhebojgpbaaVl
namespace Go.Proofs.Ythpnbhebojgpbaa
open Go.RowKit
open Geo (H3)

theorem twoc3 {V X : World} {p q r : Addr} {a b c : Value} (h : V.cell? p = some a) (k : V.cell? q = some b) (l : V.cell? r = some c) (hb : Below V.heap.size V X) : X.cell? p = some a ∧ X.cell? q = some b ∧ X.cell? r = some c := ⟨cell_to h hb, cell_to k hb, cell_to l hb⟩
set_option maxHeartbeats 3200000 in
theorem law_same (a : Option Addr) (n cap : Nat) (hs : List H3) (b : Option Addr) (m cb : Nat) (ks : List H3) (w : World) (hl : hs.length = n) (hn : n ≤ maxLen) (_hi : ∀ h ∈ hs, In64 h) (hA : HsAt w a hs) (hl2 : ks.length = m) (hn2 : m ≤ maxLen) (_hi2 : ∀ h ∈ ks, In64 h) (hB : HsAt w b ks) :
    Calls Try.prog 8 #[.agg #[.slice a n cap], .agg #[.slice b m cb]] w fun e w' => e = .returned (.bool true) ∧ Below w.heap.size w w' := by
  by_cases hle : (n : Int) ≤ 1048576
  · by_cases hle2 : (m : Int) ≤ 1048576 - n
    · have HT := Lib.hid (fun V (h : Below w.heap.size w V) => to_region2 a n cap hs V hl (by omega) (hA.below h))
      have HU := Lib.hid (fun V (h : Below w.heap.size w V) => to_region2 b m cb ks V hl2 (by omega) (hB.below h))
      have HE := Lib.hid (fun V a1 a2 c1 c2 (h1 : HsAt V a1 hs) (h2 : HsAt V a2 hs) => eq_region a1 a2 n c1 c2 hs V hl (by omega) h1 h2)
      have HF := Lib.hid (fun V a1 a2 c1 c2 (h1 : HsAt V a1 ks) (h2 : HsAt V a2 ks) => eq_region a1 a2 m c1 c2 ks V hl2 (by omega) h1 h2)
      have HZ := Lib.hid (fun V => sz_region a n cap V hn 1048576 (by omega) (by omega) (1048576 - n) (by rw [if_pos hle]))
      have HY := Lib.hid (fun V => sz_region b m cb V hn2 (1048576 - n) (by omega) (by omega) (1048576 - n - m) (by rw [if_pos hle2]))
      have HS := Lib.hid (fun V a1 a2 c1 c2 (h1 : HsAt V a1 hs) (h2 : HsAt V a2 ks) => spec_same a1 a2 n m c1 c2 hs ks V hl hl2 (by omega) h1 h2)
      have HI := Lib.hid (fun V a1 a2 c1 c2 (h1 : HsAt V a1 hs) (h2 : HsAt V a2 ks) => impl_same a1 a2 n m c1 c2 hs ks V hl hl2 (by omega) h1 h2)
      generalize sameB hs ks = r at *
      clear hn hA hl hn2 hB hl2
      go_enter Try.func8, Try.ntmps8
      go_wp2_with fail
      refine (HZ.out _).mono ?_
      rintro e w1 ⟨rfl, bl1⟩
      have q1 := cell_to (show ((w.alloc (.cells #[.slice a n cap] 50)).alloc (.cells #[.slice b m cb] 50)).cell? ⟨w.heap.size, 0, none⟩ = some (.slice a n cap) by simp) bl1
      have p1 := cell_to (show ((w.alloc (.cells #[.slice a n cap] 50)).alloc (.cells #[.slice b m cb] 50)).cell? ⟨w.heap.size + 1, 0, none⟩ = some (.slice b m cb) by simp) bl1
      have b1 := below_to (below_bx2 (below_one _ _) _) bl1
      clear bl1
      go_wp2_with fail
      refine (HY.out _).mono ?_
      rintro e w2 ⟨rfl, bl2⟩
      have b2 := below_to b1 bl2
      have q2 := cell_to q1 bl2
      have p2 := cell_to p1 bl2
      clear bl2 b1 q1 p1
      go_wp2
      go_cut [6] from 20 to 24 (fun x wx => x = .bool r ∧ Below w2.heap.size w2 wx)
      case first =>
        go_region_held3 (fun w' => w'.cell? ⟨w.heap.size, 0, none⟩ = some (.slice a n cap) ∧ w'.cell? ⟨w.heap.size + 1, 0, none⟩ = some (.slice b m cb))
          ((refine twoc q2 p2 ?_; repeat (first | exact Below.refl _ _ | refine below_drw ?_ | refine below_to ?_ (by assumption))))
          (first | (go_at_call 35; first | ((with_reducible refine (HT.out _ ?_).mono ?_); (focus (repeat (first | exact b2 | refine below_drw ?_ | refine below_to ?_ (by assumption)))); rintro e w3 ⟨ao3, cp3, rfl, ho3, bl3⟩) | ((with_reducible refine (HU.out _ ?_).mono ?_); (focus (repeat (first | exact b2 | refine below_drw ?_ | refine below_to ?_ (by assumption)))); rintro e w4 ⟨ao4, cp4, rfl, ho4, bl4⟩)) | (go_at_call 37; (with_reducible refine (HS.out _ _ _ _ _ ?_ ?_).mono ?_); (focus ((refine (own_hs ho3).below ?_); repeat (first | exact Below.refl _ _ | refine below_drw ?_ | refine below_to ?_ (by assumption)))); (focus ((refine (own_hs ho4).below ?_); repeat (first | exact Below.refl _ _ | refine below_drw ?_ | refine below_to ?_ (by assumption)))); rintro e w5 ⟨rfl, bl5⟩))
        all_goals
          go_wp2_with fail
          go_meet
          refine ⟨rfl, ?_⟩
          repeat (first | exact Below.refl _ _ | refine below_drw ?_ | refine below_to ?_ (by assumption))
      case rest =>
        obtain ⟨rfl, bl3⟩ := hcut
        have b3 := below_to b2 bl3
        have q3 := cell_to q2 bl3
        have p3 := cell_to p2 bl3
        clear bl3 b2 q2 p2
        go_wp2_with fail
        refine (HT.out _ b3).mono ?_
        rintro e w4 ⟨ao4, cp4, rfl, ho4, bl4⟩
        have b4 := below_to b3 bl4
        have q4 := cell_to (cell_to q3 bl4) (below_one _ (.cells #[.slice ao4 n cp4] 26))
        have p4 := cell_to (cell_to p3 bl4) (below_one _ (.cells #[.slice ao4 n cp4] 26))
        have x4 : (w4.alloc (.cells #[.slice ao4 n cp4] 26)).cell? ⟨w4.heap.size, 0, none⟩ = some (.slice ao4 n cp4) := by simp
        have H4 := Lib.hid (own_below ho4 (below_one _ (.cells #[.slice ao4 n cp4] 26)))
        have bb4 := below_bx2 b4 (.cells #[.slice ao4 n cp4] 26)
        clear ho4 bl4 b3 q3 p3 b4
        go_wp2_with fail
        refine (HU.out _ bb4).mono ?_
        rintro e w5 ⟨ao5, cp5, rfl, ho5, bl5⟩
        have b5 := below_bx2 (below_to bb4 bl5) (.cells #[.slice ao5 m cp5] 26)
        have q5 := cell_to (cell_to q4 bl5) (below_one _ (.cells #[.slice ao5 m cp5] 26))
        have p5 := cell_to (cell_to p4 bl5) (below_one _ (.cells #[.slice ao5 m cp5] 26))
        have x5 := cell_to (cell_to x4 bl5) (below_one _ (.cells #[.slice ao5 m cp5] 26))
        have y5 : (w5.alloc (.cells #[.slice ao5 m cp5] 26)).cell? ⟨w5.heap.size, 0, none⟩ = some (.slice ao5 m cp5) := by simp
        have H5 := Lib.hid (own_below (own_below H4.out bl5) (below_one _ (.cells #[.slice ao5 m cp5] 26)))
        have K5 := Lib.hid (own_below ho5 (below_one _ (.cells #[.slice ao5 m cp5] 26)))
        have hz5 := bl5.size
        simp at hz5
        clear ho5 bl5 bb4 q4 p4 x4 H4
        generalize w4.heap.size = x at *
        go_wp2_with fail
        refine (HI.out _ _ _ _ _ (own_hs H5.out) (own_hs K5.out)).mono ?_
        rintro e w6 ⟨rfl, bl6⟩
        have b6 := below_to b5 bl6
        have q6 := cell_to q5 bl6
        have p6 := cell_to p5 bl6
        have x6 := cell_to x5 bl6
        have y6 := cell_to y5 bl6
        have H6 := Lib.hid (own_below H5.out bl6)
        have K6 := Lib.hid (own_below K5.out bl6)
        clear bl6 b5 q5 p5 x5 y5 H5 K5
        generalize w5.heap.size = y at *
        go_wp2
        go_cut [39] from 35 to 39 (fun x wx => x = .bool false ∧ Below w6.heap.size w6 wx)
        case first =>
          go_region_held3 (fun w' => w'.cell? ⟨x, 0, none⟩ = some (.slice ao4 n cp4) ∧ w'.cell? ⟨w.heap.size, 0, none⟩ = some (.slice a n cap))
            ((refine twoc x6 q6 ?_; repeat (first | exact Below.refl _ _ | refine below_drw ?_ | refine below_to ?_ (by assumption))))
            (first | (go_at_call 35; (with_reducible refine (HT.out _ ?_).mono ?_); (focus (repeat (first | exact b6 | refine below_drw ?_ | refine below_to ?_ (by assumption)))); rintro e w7 ⟨ao7, cp7, rfl, ho7, bl7⟩) | (go_at_call 30; (with_reducible refine (HE.out _ _ _ _ _ ?_ ?_).mono ?_); (focus ((refine (own_hs H6.out).below ?_); repeat (first | exact Below.refl _ _ | refine below_drw ?_ | refine below_to ?_ (by assumption)))); (focus (exact own_hs ho7)); rintro e w8 ⟨rfl, bl8⟩))
          all_goals
            go_wp2_with fail
            go_meet
            refine ⟨rfl, ?_⟩
            repeat (first | exact Below.refl _ _ | refine below_drw ?_ | refine below_to ?_ (by assumption))
        case rest =>
          obtain ⟨rfl, bl7⟩ := hcut
          have b7 := below_to b6 bl7
          have p7 := cell_to p6 bl7
          have y7 := cell_to y6 bl7
          have K7 := Lib.hid (own_below K6.out bl7)
          clear bl7 b6 p6 y6 K6 H6 q6 x6
          go_wp2
          go_region_held3 (fun w' => w'.cell? ⟨y, 0, none⟩ = some (.slice ao5 m cp5) ∧ w'.cell? ⟨w.heap.size + 1, 0, none⟩ = some (.slice b m cb))
            ((refine twoc y7 p7 ?_; repeat (first | exact Below.refl _ _ | refine below_drw ?_ | refine below_to ?_ (by assumption))))
            (first | (go_at_call 35; (with_reducible refine (HU.out _ ?_).mono ?_); (focus (repeat (first | exact b7 | refine below_drw ?_ | refine below_to ?_ (by assumption)))); rintro e w8 ⟨ao8, cp8, rfl, ho8, bl8⟩) | (go_at_call 30; (with_reducible refine (HF.out _ _ _ _ _ ?_ ?_).mono ?_); (focus ((refine (own_hs K7.out).below ?_); repeat (first | exact Below.refl _ _ | refine below_drw ?_ | refine below_to ?_ (by assumption)))); (focus (exact own_hs ho8)); rintro e w9 ⟨rfl, bl9⟩))
          all_goals
            go_wp2
            go_ret
            refine ⟨rfl, ?_⟩
            repeat (first | exact b7 | refine below_drw ?_ | refine below_to ?_ (by assumption))
    · have HZ := Lib.hid (fun V => sz_region a n cap V hn 1048576 (by omega) (by omega) (1048576 - n) (by rw [if_pos hle]))
      have HY := Lib.hid (fun V => sz_region b m cb V hn2 (1048576 - n) (by omega) (by omega) (-1) (by rw [if_neg hle2]))
      clear hn hA hl hn2 hB hl2 hle2
      go_enter Try.func8, Try.ntmps8
      go_wp2_with fail
      refine (HZ.out _).mono ?_
      rintro e w1 ⟨rfl, bl1⟩
      have p1 := cell_to (show ((w.alloc (.cells #[.slice a n cap] 50)).alloc (.cells #[.slice b m cb] 50)).cell? ⟨w.heap.size + 1, 0, none⟩ = some (.slice b m cb) by simp) bl1
      have b1 := below_to (below_bx2 (below_one _ _) _) bl1
      clear bl1
      go_wp2_with fail
      refine (HY.out _).mono ?_
      rintro e w2 ⟨rfl, bl2⟩
      have b2 := below_to b1 bl2
      go_wp2
      go_ret
      exact ⟨rfl, b2⟩
  · have HZ := Lib.hid (fun V => sz_region a n cap V hn 1048576 (by omega) (by omega) (-1) (by rw [if_neg hle]))
    clear hn hA hl hle hn2 hB hl2
    go_enter Try.func8, Try.ntmps8
    go_wp2_with fail
    refine (HZ.out _).mono ?_
    rintro e w1 ⟨rfl, bl1⟩
    go_wp2
    go_ret
    exact ⟨rfl, below_to (below_bx2 (below_one _ _) _) bl1⟩
end Go.Proofs.Ythpnbhebojgpbaa
