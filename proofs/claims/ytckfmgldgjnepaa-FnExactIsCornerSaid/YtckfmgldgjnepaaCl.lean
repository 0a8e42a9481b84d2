/- The model's IsCorner over the translation, and the walk of its law. -/
import Derived.Test.YtckfmgldgjnepaaCk
import Derived.Test.YtckfmgldgjnepaaCu
namespace Go.Proofs.Ytckfmgldgjnepaa
open Go.RowKit
open Geo (H3)

theorem isc_at {ps : List H3} {x : H3} {k : Nat} (h : (corR ps)[k]? = some x) : isC ps x = true := by
  unfold isC; rw [List.any_eq_true]; exact ⟨x, List.mem_of_getElem? h, by simp⟩
theorem isc_all {ps : List H3} {x : H3} {n : Nat} (hl : (corR ps).length = n) (h : x ∉ (corR ps).take n) : isC ps x = false := by
  rw [List.take_of_length_le (by omega)] at h
  unfold isC; rw [List.any_eq_false]
  intro y hy; simp only [decide_eq_true_eq]; rintro rfl; exact h hy
theorem isc_next {L : List H3} {x z : H3} {k : Nat} (h : L[k]? = some z) (n : ¬ z = x) (t : x ∉ L.take k) : x ∉ L.take (k + 1) := by
  rw [List.take_add_one, h]; simp only [Option.toList, List.mem_append, List.mem_singleton, not_or]; exact ⟨t, fun e => n e.symm⟩
set_option maxRecDepth 100000 in
set_option maxHeartbeats 1600000 in
theorem spec_isc (a : Option Addr) (n cap : Nat) (ps : List H3) (x y d : Int) (w : World) (hl : ps.length = n) (hn : n ≤ 1048576) (h64 : ∀ h ∈ ps, In64 h) (hnil : a = none → n = 0 ∧ cap = 0) (hA : HsAt w a ps) :
    Calls Try.prog 26 #[.agg #[.slice a n cap], .agg #[.int .i64 x, .int .i64 y, .int .i64 d]] w fun e w' => e = .returned (.bool (isC ps ⟨x, y, d⟩)) ∧ Below w.heap.size w w' := by
  have bV := below_bx2 (below_one w (.cells #[.slice a n cap] 30)) (.cells #[.int .i64 x, .int .i64 y, .int .i64 d] 50)
  have r0 := tri_new (w.alloc (.cells #[.slice a n cap] 30)) (.int .i64 x) (.int .i64 y) (.int .i64 d) 50
  rw [show (w.alloc (.cells #[.slice a n cap] 30)).heap.size = w.heap.size + 1 by simp] at r0
  have HC := Lib.hid (fun V (h : Below w.heap.size w V) => spec_cor a n cap ps V hl hn h64 hnil (hA.below h))
  have HL := Lib.hid (corR_le hl)
  clear hl hA h64 hnil
  go_enter Try.func26, Try.ntmps26
  go_wp2_with fail
  generalize (w.alloc (.cells #[.slice a n cap] 30)).alloc (.cells #[.int .i64 x, .int .i64 y, .int .i64 d] 50) = V at *
  refine (HC.out _ bV).mono ?_
  rintro e w1 ⟨ao, cp, rfl, ho, bl1⟩
  have b1 := below_to bV bl1
  have r1 := r0.to bl1
  have HB := Lib.hid (own_hs ho)
  obtain ⟨m, hm⟩ : ∃ m, (corR ps).length = m := ⟨_, rfl⟩
  have HM := Lib.hid hm
  have hm40 : m ≤ 1048576 := by have := HL.out; omega
  rw [hm]
  clear ho bl1 bV r0 HC HL hm
  go_wp2
  go_loopw [10] (fun i wr => ∃ k : Nat, k ≤ m ∧ i = .int .i64 k ∧ (⟨x, y, d⟩ : H3) ∉ (corR ps).take k ∧ Below w1.heap.size w1 wr) (fun i _ => m - (intOf i).toNat)
  case atStart => exact ⟨0, Nat.zero_le _, rfl, by simp, Below.refl _ _⟩
  case round =>
    obtain ⟨k, hk, rfl, ht, hbel⟩ := hrel
    have HT := Lib.hid ht
    have hbw := below_to b1 hbel
    obtain ⟨s1, s2, s3⟩ := r1.to hbel
    have l1 := block_lt_of_cell s1
    simp only at l1
    clear ht
    by_cases hlt : k < m
    · obtain ⟨⟨xa, xb, xc⟩, hx⟩ : ∃ x, (corR ps)[k]? = some x := ⟨_, List.getElem?_eq_getElem (by rw [HM.out]; exact hlt)⟩
      obtain ⟨g, o, rfl, hc⟩ := HB.out k _ hx
      have l2 := block_lt_of_cell (hc.to hbel).1
      obtain ⟨t1, t2, t3⟩ := hc.to hbel
      simp only at t1 t2 t3 l2
      have HX := Lib.hid hx
      clear hx hc
      by_cases he : (⟨xa, xb, xc⟩ : H3) = ⟨x, y, d⟩
      · obtain ⟨rfl, rfl, rfl⟩ : xa = x ∧ xb = y ∧ xc = d := by simpa using he
        have HN := Lib.hid (isc_at HX.out)
        clear he
        go_wp2
        go_ret
        exact ⟨ret_bool HN.out.symm, below_bx2 hbw _⟩
      · have HN := Lib.hid (isc_next HX.out he HT.out)
        rcases ne_parts he with h1 | ⟨rfl, h1⟩ | ⟨rfl, rfl, h1⟩
        all_goals
          have hb := eq_b h1
          clear he h1
          go_wp2
          go_roundw
          case rel => exact ⟨k + 1, by omega, by go_num, HN.out, below_bx2 hbel _⟩
          case measure => simp [intOf]; omega
    · obtain rfl : k = m := by omega
      have HN := Lib.hid (isc_all HM.out HT.out)
      go_wp2
      go_ret
      exact ⟨ret_bool HN.out.symm, hbw⟩
set_option maxRecDepth 100000 in
set_option maxHeartbeats 3200000 in
theorem law_isc (a : Option Addr) (n cap : Nat) (hs : List H3) (x y d : Int) (w : World) (hl : hs.length = n) (hn : n ≤ maxLen) (h64 : ∀ h ∈ hs, In64 h) (hA : HsAt w a hs) (_hp : In64 ⟨x, y, d⟩) :
    Calls Try.prog 8 #[.agg #[.slice a n cap], .agg #[.int .i64 x, .int .i64 y, .int .i64 d]] w fun e w' => e = .returned (.bool true) ∧ Below w.heap.size w w' := by
  have q0 := cell_to (show (w.alloc (.cells #[.slice a n cap] 24)).cell? ⟨w.heap.size, 0, none⟩ = some (.slice a n cap) by simp) (below_one _ (.cells #[.int .i64 x, .int .i64 y, .int .i64 d] 48))
  have r0 := tri_new (w.alloc (.cells #[.slice a n cap] 24)) (.int .i64 x) (.int .i64 y) (.int .i64 d) 48
  have b0 := below_bx2 (below_one w (.cells #[.slice a n cap] 24)) (.cells #[.int .i64 x, .int .i64 y, .int .i64 d] 48)
  rw [show (w.alloc (.cells #[.slice a n cap] 24)).heap.size = w.heap.size + 1 by simp] at r0
  by_cases hle : (n : Int) ≤ 1048576
  · have HT := Lib.hid (fun V (h : Below w.heap.size w V) => to_region2 a n cap hs V hl (by omega) (hA.below h))
    have HE := Lib.hid (fun V a1 a2 c1 c2 (h1 : HsAt V a1 hs) (h2 : HsAt V a2 hs) => eq_region a1 a2 n c1 c2 hs V hl (by omega) h1 h2)
    have HZ := Lib.hid (fun V => sz_region a n cap V hn 1048576 (by omega) (by omega) (1048576 - n) (by rw [if_pos hle]))
    have HP := Lib.hid (fun V => to_spot x y d V)
    have HS := Lib.hid (fun V a1 c1 (h0 : a1 = none → n = 0 ∧ c1 = 0) (h1 : HsAt V a1 hs) => spec_isc a1 n c1 hs x y d V hl (by omega) h64 h0 h1)
    have HI := Lib.hid (fun V a1 c1 (h1 : HsAt V a1 hs) => impl_isc a1 n c1 hs x y d V hl (by omega) h64 h1)
    generalize isC hs ⟨x, y, d⟩ = r at *
    clear hn hA hl h64
    go_enter Try.func8, Try.ntmps8
    go_wp2_with fail
    generalize (w.alloc (.cells #[.slice a n cap] 24)).alloc (.cells #[.int .i64 x, .int .i64 y, .int .i64 d] 48) = V at *
    refine (HZ.out _).mono ?_
    rintro e w1 ⟨rfl, bl1⟩
    have q1 := cell_to q0 bl1
    have r1 := r0.to bl1
    have b1 := below_to b0 bl1
    clear bl1 q0 r0 b0
    obtain ⟨f1, f2, f3⟩ := r1
    go_wp2
    go_cut [6] from 14 to 18 (fun x wx => x = .bool r ∧ Below w1.heap.size w1 wx)
    case first =>
      go_region_held3 (fun w' => w'.cell? ⟨w.heap.size, 0, none⟩ = some (.slice a n cap) ∧ w'.cell? ⟨w.heap.size + 1, 0, none⟩ = some (.int .i64 x) ∧ w'.cell? ⟨w.heap.size + 1, 1, none⟩ = some (.int .i64 y) ∧ w'.cell? ⟨w.heap.size + 1, 2, none⟩ = some (.int .i64 d))
        ((refine fourc q1 f1 f2 f3 ?_; repeat (first | exact Below.refl _ _ | refine below_drw ?_ | refine below_to ?_ (by assumption))))
        (first | (go_at_call 11; (with_reducible refine (HT.out _ ?_).mono ?_); (focus (repeat (first | exact b1 | refine below_drw ?_ | refine below_to ?_ (by assumption)))); rintro e w3 ⟨ao3, cp3, rfl, ho3, bl3⟩) | (go_at_call 27; (with_reducible refine (HP.out _).mono ?_); rintro e w4 ⟨rfl, bl4⟩) | (go_at_call 26; (with_reducible refine (HS.out _ _ _ ?_ ?_).mono ?_); (focus (exact own_nil ho3)); (focus ((refine (own_hs ho3).below ?_); repeat (first | exact Below.refl _ _ | refine below_drw ?_ | refine below_to ?_ (by assumption)))); rintro e w5 ⟨rfl, bl5⟩))
      all_goals
        go_wp2_with fail
        go_meet
        refine ⟨rfl, ?_⟩
        repeat (first | exact Below.refl _ _ | refine below_drw ?_ | refine below_to ?_ (by assumption))
    case rest =>
      obtain ⟨rfl, bl3⟩ := hcut
      have b3 := below_to b1 bl3
      have q3 := cell_to q1 bl3
      have g1 := cell_to f1 bl3
      have g2 := cell_to f2 bl3
      have g3 := cell_to f3 bl3
      clear bl3 b1 q1 f1 f2 f3
      go_wp2_with fail
      refine (HT.out _ b3).mono ?_
      rintro e w4 ⟨ao4, cp4, rfl, ho4, bl4⟩
      have b4 := below_to b3 bl4
      have q4 := cell_to (cell_to q3 bl4) (below_one _ (.cells #[.slice ao4 n cp4] 30))
      have k1 := cell_to (cell_to g1 bl4) (below_one _ (.cells #[.slice ao4 n cp4] 30))
      have k2 := cell_to (cell_to g2 bl4) (below_one _ (.cells #[.slice ao4 n cp4] 30))
      have k3 := cell_to (cell_to g3 bl4) (below_one _ (.cells #[.slice ao4 n cp4] 30))
      have x4 : (w4.alloc (.cells #[.slice ao4 n cp4] 30)).cell? ⟨w4.heap.size, 0, none⟩ = some (.slice ao4 n cp4) := by simp
      have H4 := Lib.hid (own_below ho4 (below_one _ (.cells #[.slice ao4 n cp4] 30)))
      have bb4 := below_bx2 b4 (.cells #[.slice ao4 n cp4] 30)
      clear ho4 bl4 b3 q3 b4 g1 g2 g3
      go_wp2
      generalize w4.alloc (.cells #[.slice ao4 n cp4] 30) = V4 at *
      generalize w4.heap.size = xx at *
      go_cut [8] from 21 to 24 (fun x wx => x = .bool r ∧ Below V4.heap.size V4 wx)
      case first =>
        go_region_held3 (fun w' => w'.cell? ⟨xx, 0, none⟩ = some (.slice ao4 n cp4) ∧ w'.cell? ⟨w.heap.size + 1, 0, none⟩ = some (.int .i64 x) ∧ w'.cell? ⟨w.heap.size + 1, 1, none⟩ = some (.int .i64 y) ∧ w'.cell? ⟨w.heap.size + 1, 2, none⟩ = some (.int .i64 d))
          ((refine fourc x4 k1 k2 k3 ?_; repeat (first | exact Below.refl _ _ | refine below_drw ?_ | refine below_to ?_ (by assumption))))
          (first | (go_at_call 27; (with_reducible refine (HP.out _).mono ?_); rintro e w5 ⟨rfl, bl5⟩) | (go_at_call 28; (with_reducible refine (HI.out _ _ _ ?_).mono ?_); (focus ((refine (own_hs H4.out).below ?_); repeat (first | exact Below.refl _ _ | refine below_drw ?_ | refine below_to ?_ (by assumption)))); rintro e w6 ⟨rfl, bl6⟩))
        all_goals
          go_wp2_with fail
          go_meet
          refine ⟨rfl, ?_⟩
          repeat (first | exact Below.refl _ _ | refine below_drw ?_ | refine below_to ?_ (by assumption))
      case rest =>
        obtain ⟨rfl, bl5⟩ := hcut
        have b5 := below_to bb4 bl5
        have q5 := cell_to q4 bl5
        have x5 := cell_to x4 bl5
        have H5 := Lib.hid (own_below H4.out bl5)
        clear bl5 bb4 q4 x4 H4 k1 k2 k3
        go_wp2
        go_region_held3 (fun w' => w'.cell? ⟨xx, 0, none⟩ = some (.slice ao4 n cp4) ∧ w'.cell? ⟨w.heap.size, 0, none⟩ = some (.slice a n cap))
          ((refine twoc x5 q5 ?_; repeat (first | exact Below.refl _ _ | refine below_drw ?_ | refine below_to ?_ (by assumption))))
          (first | (go_at_call 11; (with_reducible refine (HT.out _ ?_).mono ?_); (focus (repeat (first | exact b5 | refine below_drw ?_ | refine below_to ?_ (by assumption)))); rintro e w6 ⟨ao6, cp6, rfl, ho6, bl6⟩) | (go_at_call 14; (with_reducible refine (HE.out _ _ _ _ _ ?_ ?_).mono ?_); (focus ((refine (own_hs H5.out).below ?_); repeat (first | exact Below.refl _ _ | refine below_drw ?_ | refine below_to ?_ (by assumption)))); (focus (exact own_hs ho6)); rintro e w7 ⟨rfl, bl7⟩))
        all_goals
          go_wp2
          go_ret
          refine ⟨rfl, ?_⟩
          repeat (first | exact b5 | refine below_drw ?_ | refine below_to ?_ (by assumption))
  · have HZ := Lib.hid (fun V => sz_region a n cap V hn 1048576 (by omega) (by omega) (-1) (by rw [if_neg hle]))
    clear hn hA hl hle h64
    go_enter Try.func8, Try.ntmps8
    go_wp2_with fail
    refine (HZ.out _).mono ?_
    rintro e w1 ⟨rfl, bl1⟩
    have b1 := below_to b0 bl1
    go_wp2
    go_ret
    exact ⟨rfl, b1⟩
theorem law_isc2 (a : Option Addr) (n cap : Nat) (hs : List H3) (x y d : Int) (wx : (Lit.int .i64 x).wf = true) (wy : (Lit.int .i64 y).wf = true) (wd : (Lit.int .i64 d).wf = true) (w : World) (hl : hs.length = n) (hn : n ≤ maxLen) (h64 : ∀ h ∈ hs, In64 h) (hA : HsAt w a hs) :
    Calls Try.prog 8 #[.agg #[.slice a n cap], .agg #[.int .i64 x, .int .i64 y, .int .i64 d]] w fun e w' => e = .returned (.bool true) ∧ Below w.heap.size w w' :=
  law_isc a n cap hs x y d w hl hn h64 hA ⟨bounds_i64 wx, bounds_i64 wy, bounds_i64 wd⟩
end Go.Proofs.Ytckfmgldgjnepaa
