/- The contract of the spec's HasSpot over the translation, and the walk of its law. -/
import Derived.Test.YthpnbhebojgpbaaHs
import Derived.Test.YthpnbhebojgpbaaSl
namespace Go.Proofs.Ythpnbhebojgpbaa
open Go.RowKit
open Geo (H3)

theorem has_sno {hs : List H3} {x y d : Int} (h : okS x y d = false) : hasB hs x y d = false := by
  unfold hasB
  by_cases h0 : hs = []
  · simp [h0]
  · obtain ⟨z, hz⟩ := List.exists_mem_of_ne_nil hs h0
    rw [Bool.and_eq_false_iff]
    exact Or.inr (by rw [List.all_eq_false]; exact ⟨z, hz, by simp [holdH, h]⟩)
theorem has_lha {hs : List H3} {x y d : Int} (h : rokB hs = true) (k : okS x y d = true) : hasB hs x y d = lhaB hs x y d := by
  unfold hasB lhaB
  rw [h, Bool.true_and, Bool.and_comm]
  refine congrArg (· && decide (hs ≠ [])) ?_
  refine Bool.eq_iff_iff.2 ?_
  simp only [List.all_eq_true]
  refine forall_congr' fun z => forall_congr' fun hz => ?_
  have := rok_all h z hz
  unfold okB at this
  unfold holdH
  rw [this, k]; rfl
set_option maxRecDepth 100000 in
set_option maxHeartbeats 1600000 in
theorem spec_has (a : Option Addr) (n cap : Nat) (hs : List H3) (x y d : Int) (w : World) (hl : hs.length = n) (hn : n ≤ 1048576) (h64 : ∀ h ∈ hs, In64 h) (hp : In64 ⟨x, y, d⟩) (hnil : a = none → n = 0 ∧ cap = 0) (hA : HsAt w a hs) :
    Calls Try.prog 43 #[.agg #[.slice a n cap], .agg #[.int .i64 x, .int .i64 y, .int .i64 d]] w fun e w' => e = .returned (.bool (hasB hs x y d)) ∧ Below w.heap.size w w' := by
  have q2 := cell_to (show (w.alloc (.cells #[.slice a n cap] 26)).cell? ⟨w.heap.size, 0, none⟩ = some (.slice a n cap) by simp) (below_one _ (.cells #[.int .i64 x, .int .i64 y, .int .i64 d] 31))
  have q3 := tri_new (w.alloc (.cells #[.slice a n cap] 26)) (.int .i64 x) (.int .i64 y) (.int .i64 d) 31
  have bV := below_bx2 (below_one w (.cells #[.slice a n cap] 26)) (.cells #[.int .i64 x, .int .i64 y, .int .i64 d] 31)
  rw [show (w.alloc (.cells #[.slice a n cap] 26)).heap.size = w.heap.size + 1 by simp] at q3
  obtain ⟨⟨x1, x2⟩, ⟨y1, y2⟩, d1, d2⟩ := hp
  simp only at x1 x2 y1 y2 d1 d2
  have HR := Lib.hid (fun V (h : Below w.heap.size w V) => spec_rok a n cap hs V hl hn h64 hnil (hA.below h))
  have HK := Lib.hid (fun V => spec_sok x y d V x1 x2 y1 y2 d1 d2)
  have HL := Lib.hid (fun V (h : Below w.heap.size w V) (r : rokB hs = true) (k : okS x y d = true) => spec_lhas a n cap hs x y d V hl hn (rok_all r) k (hA.below h))
  clear hl hn h64 hnil hA x1 x2 y1 y2 d1 d2
  go_enter Try.func43, Try.ntmps43
  go_wp2_with fail
  generalize (w.alloc (.cells #[.slice a n cap] 26)).alloc (.cells #[.int .i64 x, .int .i64 y, .int .i64 d] 31) = V at *
  refine (HR.out _ bV).mono ?_
  rintro e w1 ⟨rfl, bl1⟩
  have b1 := below_to bV bl1
  have p2 := cell_to q2 bl1
  obtain ⟨s1, s2, s3⟩ := q3.to bl1
  cases hr : rokB hs with
  | false =>
    have HY := Lib.hid (has_rok hr x y d)
    clear hr
    go_wp2
    go_ret
    exact ⟨ret_bool HY.out.symm, b1⟩
  | true =>
    have HQ := Lib.hid hr
    clear hr
    go_wp2_with fail
    refine (HK.out _).mono ?_
    rintro e w2 ⟨rfl, bl2⟩
    have b2 := below_to b1 bl2
    have p3 := cell_to p2 bl2
    have t1 := cell_to s1 bl2
    have t2 := cell_to s2 bl2
    have t3 := cell_to s3 bl2
    cases hk : okS x y d with
    | false =>
      have HY := Lib.hid (has_sno (hs := hs) hk)
      clear hk
      go_wp2
      go_ret
      exact ⟨ret_bool HY.out.symm, b2⟩
    | true =>
      have HY := Lib.hid (has_lha HQ.out hk)
      have HP := Lib.hid hk
      clear hk
      go_wp2_with fail
      refine (HL.out _ b2 HQ.out HP.out).mono ?_
      rintro e w3 ⟨rfl, bl3⟩
      go_wp2
      go_ret
      exact ⟨ret_bool HY.out.symm, below_to b2 bl3⟩
theorem fourc {V X : World} {p q r s : Addr} {a b c d : Value} (h : V.cell? p = some a) (k : V.cell? q = some b) (l : V.cell? r = some c) (m : V.cell? s = some d) (hb : Below V.heap.size V X) : X.cell? p = some a ∧ X.cell? q = some b ∧ X.cell? r = some c ∧ X.cell? s = some d := ⟨cell_to h hb, cell_to k hb, cell_to l hb, cell_to m hb⟩
set_option maxRecDepth 100000 in
set_option maxHeartbeats 3200000 in
theorem law_has (a : Option Addr) (n cap : Nat) (hs : List H3) (x y d : Int) (w : World) (hl : hs.length = n) (hn : n ≤ maxLen) (h64 : ∀ h ∈ hs, In64 h) (hA : HsAt w a hs) (hp : In64 ⟨x, y, d⟩) :
    Calls Try.prog 10 #[.agg #[.slice a n cap], .agg #[.int .i64 x, .int .i64 y, .int .i64 d]] w fun e w' => e = .returned (.bool true) ∧ Below w.heap.size w w' := by
  have q0 := cell_to (show (w.alloc (.cells #[.slice a n cap] 50)).cell? ⟨w.heap.size, 0, none⟩ = some (.slice a n cap) by simp) (below_one _ (.cells #[.int .i64 x, .int .i64 y, .int .i64 d] 59))
  have r0 := tri_new (w.alloc (.cells #[.slice a n cap] 50)) (.int .i64 x) (.int .i64 y) (.int .i64 d) 59
  have b0 := below_bx2 (below_one w (.cells #[.slice a n cap] 50)) (.cells #[.int .i64 x, .int .i64 y, .int .i64 d] 59)
  rw [show (w.alloc (.cells #[.slice a n cap] 50)).heap.size = w.heap.size + 1 by simp] at r0
  by_cases hle : (n : Int) ≤ 1048576
  · have HT := Lib.hid (fun V (h : Below w.heap.size w V) => to_region2 a n cap hs V hl (by omega) (hA.below h))
    have HE := Lib.hid (fun V a1 a2 c1 c2 (h1 : HsAt V a1 hs) (h2 : HsAt V a2 hs) => eq_region a1 a2 n c1 c2 hs V hl (by omega) h1 h2)
    have HZ := Lib.hid (fun V => sz_region a n cap V hn 1048576 (by omega) (by omega) (1048576 - n) (by rw [if_pos hle]))
    have HP := Lib.hid (fun V => to_spot x y d V)
    have HS := Lib.hid (fun V a1 c1 (h0 : a1 = none → n = 0 ∧ c1 = 0) (h1 : HsAt V a1 hs) => spec_has a1 n c1 hs x y d V hl (by omega) h64 hp h0 h1)
    have HI := Lib.hid (fun V a1 c1 (h1 : HsAt V a1 hs) => impl_has a1 n c1 hs x y d V hl (by omega) h64 hp h1)
    generalize hasB hs x y d = r at *
    clear hn hA hl h64 hp
    go_enter Try.func10, Try.ntmps10
    go_wp2_with fail
    generalize (w.alloc (.cells #[.slice a n cap] 50)).alloc (.cells #[.int .i64 x, .int .i64 y, .int .i64 d] 59) = V at *
    refine (HZ.out _).mono ?_
    rintro e w1 ⟨rfl, bl1⟩
    have q1 := cell_to q0 bl1
    have r1 := r0.to bl1
    have b1 := below_to b0 bl1
    clear bl1 q0 r0 b0
    obtain ⟨f1, f2, f3⟩ := r1
    go_wp2
    go_cut [6] from 14 to 18 (fun x wx => x = .bool r ∧ Below w1.heap.size w1 wx)
    case first =>
      go_region_held3 (fun w' => w'.cell? ⟨w.heap.size, 0, none⟩ = some (.slice a n cap) ∧ w'.cell? ⟨w.heap.size + 1, 0, none⟩ = some (.int .i64 x) ∧ w'.cell? ⟨w.heap.size + 1, 1, none⟩ = some (.int .i64 y) ∧ w'.cell? ⟨w.heap.size + 1, 2, none⟩ = some (.int .i64 d))
        ((refine fourc q1 f1 f2 f3 ?_; repeat (first | exact Below.refl _ _ | refine below_drw ?_ | refine below_to ?_ (by assumption))))
        (first | (go_at_call 35; (with_reducible refine (HT.out _ ?_).mono ?_); (focus (repeat (first | exact b1 | refine below_drw ?_ | refine below_to ?_ (by assumption)))); rintro e w3 ⟨ao3, cp3, rfl, ho3, bl3⟩) | (go_at_call 44; (with_reducible refine (HP.out _).mono ?_); rintro e w4 ⟨rfl, bl4⟩) | (go_at_call 43; (with_reducible refine (HS.out _ _ _ ?_ ?_).mono ?_); (focus (exact own_nil ho3)); (focus ((refine (own_hs ho3).below ?_); repeat (first | exact Below.refl _ _ | refine below_drw ?_ | refine below_to ?_ (by assumption)))); rintro e w5 ⟨rfl, bl5⟩))
      all_goals
        go_wp2_with fail
        go_meet
        refine ⟨rfl, ?_⟩
        repeat (first | exact Below.refl _ _ | refine below_drw ?_ | refine below_to ?_ (by assumption))
    case rest =>
      obtain ⟨rfl, bl3⟩ := hcut
      have b3 := below_to b1 bl3
      have q3 := cell_to q1 bl3
      have g1 := cell_to f1 bl3
      have g2 := cell_to f2 bl3
      have g3 := cell_to f3 bl3
      clear bl3 b1 q1 f1 f2 f3
      go_wp2_with fail
      refine (HT.out _ b3).mono ?_
      rintro e w4 ⟨ao4, cp4, rfl, ho4, bl4⟩
      have b4 := below_to b3 bl4
      have q4 := cell_to (cell_to q3 bl4) (below_one _ (.cells #[.slice ao4 n cp4] 26))
      have k1 := cell_to (cell_to g1 bl4) (below_one _ (.cells #[.slice ao4 n cp4] 26))
      have k2 := cell_to (cell_to g2 bl4) (below_one _ (.cells #[.slice ao4 n cp4] 26))
      have k3 := cell_to (cell_to g3 bl4) (below_one _ (.cells #[.slice ao4 n cp4] 26))
      have x4 : (w4.alloc (.cells #[.slice ao4 n cp4] 26)).cell? ⟨w4.heap.size, 0, none⟩ = some (.slice ao4 n cp4) := by simp
      have H4 := Lib.hid (own_below ho4 (below_one _ (.cells #[.slice ao4 n cp4] 26)))
      have bb4 := below_bx2 b4 (.cells #[.slice ao4 n cp4] 26)
      clear ho4 bl4 b3 q3 b4 g1 g2 g3
      go_wp2
      generalize w4.alloc (.cells #[.slice ao4 n cp4] 26) = V4 at *
      generalize w4.heap.size = xx at *
      go_cut [8] from 21 to 24 (fun x wx => x = .bool r ∧ Below V4.heap.size V4 wx)
      case first =>
        go_region_held3 (fun w' => w'.cell? ⟨xx, 0, none⟩ = some (.slice ao4 n cp4) ∧ w'.cell? ⟨w.heap.size + 1, 0, none⟩ = some (.int .i64 x) ∧ w'.cell? ⟨w.heap.size + 1, 1, none⟩ = some (.int .i64 y) ∧ w'.cell? ⟨w.heap.size + 1, 2, none⟩ = some (.int .i64 d))
          ((refine fourc x4 k1 k2 k3 ?_; repeat (first | exact Below.refl _ _ | refine below_drw ?_ | refine below_to ?_ (by assumption))))
          (first | (go_at_call 44; (with_reducible refine (HP.out _).mono ?_); rintro e w5 ⟨rfl, bl5⟩) | (go_at_call 19; (with_reducible refine (HI.out _ _ _ ?_).mono ?_); (focus ((refine (own_hs H4.out).below ?_); repeat (first | exact Below.refl _ _ | refine below_drw ?_ | refine below_to ?_ (by assumption)))); rintro e w6 ⟨rfl, bl6⟩))
        all_goals
          go_wp2_with fail
          go_meet
          refine ⟨rfl, ?_⟩
          repeat (first | exact Below.refl _ _ | refine below_drw ?_ | refine below_to ?_ (by assumption))
      case rest =>
        obtain ⟨rfl, bl5⟩ := hcut
        have b5 := below_to bb4 bl5
        have q5 := cell_to q4 bl5
        have x5 := cell_to x4 bl5
        have H5 := Lib.hid (own_below H4.out bl5)
        clear bl5 bb4 q4 x4 H4 k1 k2 k3
        go_wp2
        go_region_held3 (fun w' => w'.cell? ⟨xx, 0, none⟩ = some (.slice ao4 n cp4) ∧ w'.cell? ⟨w.heap.size, 0, none⟩ = some (.slice a n cap))
          ((refine twoc x5 q5 ?_; repeat (first | exact Below.refl _ _ | refine below_drw ?_ | refine below_to ?_ (by assumption))))
          (first | (go_at_call 35; (with_reducible refine (HT.out _ ?_).mono ?_); (focus (repeat (first | exact b5 | refine below_drw ?_ | refine below_to ?_ (by assumption)))); rintro e w6 ⟨ao6, cp6, rfl, ho6, bl6⟩) | (go_at_call 30; (with_reducible refine (HE.out _ _ _ _ _ ?_ ?_).mono ?_); (focus ((refine (own_hs H5.out).below ?_); repeat (first | exact Below.refl _ _ | refine below_drw ?_ | refine below_to ?_ (by assumption)))); (focus (exact own_hs ho6)); rintro e w7 ⟨rfl, bl7⟩))
        all_goals
          go_wp2
          go_ret
          refine ⟨rfl, ?_⟩
          repeat (first | exact b5 | refine below_drw ?_ | refine below_to ?_ (by assumption))
  · have HZ := Lib.hid (fun V => sz_region a n cap V hn 1048576 (by omega) (by omega) (-1) (by rw [if_neg hle]))
    clear hn hA hl hle h64 hp
    go_enter Try.func10, Try.ntmps10
    go_wp2_with fail
    refine (HZ.out _).mono ?_
    rintro e w1 ⟨rfl, bl1⟩
    have b1 := below_to b0 bl1
    go_wp2
    go_ret
    exact ⟨rfl, b1⟩
theorem law_has2 (a : Option Addr) (n cap : Nat) (hs : List H3) (x y d : Int) (wx : (Lit.int .i64 x).wf = true) (wy : (Lit.int .i64 y).wf = true) (wd : (Lit.int .i64 d).wf = true) (w : World) (hl : hs.length = n) (hn : n ≤ maxLen) (h64 : ∀ h ∈ hs, In64 h) (hA : HsAt w a hs) :
    Calls Try.prog 10 #[.agg #[.slice a n cap], .agg #[.int .i64 x, .int .i64 y, .int .i64 d]] w fun e w' => e = .returned (.bool true) ∧ Below w.heap.size w w' :=
  law_has a n cap hs x y d w hl hn h64 hA ⟨bounds_i64 wx, bounds_i64 wy, bounds_i64 wd⟩
end Go.Proofs.Ythpnbhebojgpbaa
