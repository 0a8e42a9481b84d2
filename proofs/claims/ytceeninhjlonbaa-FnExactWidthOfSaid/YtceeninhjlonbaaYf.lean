/- The walk of the law of WidthOf. -/
import Derived.Test.YtceeninhjlonbaaYe
namespace Go.Proofs.Ytceeninhjlonbaa
open Go.RowKit
open Geo (H3)

theorem eqr_wid (n d : Int) (w : World) :
    Calls Try.prog 30 #[.agg #[.int .i64 n, .int .i64 d], .agg #[.int .i64 n, .int .i64 d]] w fun e w' => e = .returned (.bool true) ∧ Below w.heap.size w w' := by
  go_enter Try.func30, Try.ntmps30
  go_wp2
  go_ret
  exact ⟨rfl, below_bx2 (below_one _ _) _⟩
set_option maxRecDepth 100000 in
set_option maxHeartbeats 3200000 in
theorem law_wid (a : Option Addr) (n ca : Nat) (ps : List H3) (A : Int) (B : Int) (_wA : (Lit.int .i64 A).wf = true) (_wB : (Lit.int .i64 B).wf = true) (w : World) (hl : ps.length = n) (hn : n ≤ maxLen) (h64 : ∀ h ∈ ps, In64 h) (hA : HsAt w a ps) :
    Calls Try.prog 6 #[.agg #[.slice a n ca], .int .i64 A, .int .i64 B] w fun e w' => e = .returned (.bool true) ∧ Below w.heap.size w w' := by
  have b0 := below_one w (.cells #[.slice a n ca] 25)
  have q0 : (w.alloc (.cells #[.slice a n ca] 25)).cell? ⟨w.heap.size, 0, none⟩ = some (.slice a n ca) := by simp
  by_cases hle : (n : Int) ≤ 1048576
  · have HTA := Lib.hid (fun V (h : Below w.heap.size w V) => to_region2 a n ca ps V hl (by omega) (hA.below h))
    have HEA := Lib.hid (fun V a1 a2 c1 c2 (h1 : HsAt V a1 ps) (h2 : HsAt V a2 ps) => eq_region a1 a2 n c1 c2 ps V hl (by omega) h1 h2)
    have HZA := Lib.hid (fun V => sz_region a n ca V hn 1048576 (by omega) (by omega) (1048576 - n) (by rw [if_pos (by omega)]))
    have HS := Lib.hid (fun V a1 c1 (h0 : a1 = none → n = 0 ∧ c1 = 0) (h1 : HsAt V a1 ps) => spec_wid a1 n c1 ps A B V hl (by omega) h64 h0 h1)
    have HI := Lib.hid (fun V a1 c1 (h1 : HsAt V a1 ps) => impl_wid a1 n c1 ps A B V hl (by omega) h64 h1)
    generalize wdN A B ps = sN at *
    generalize wdD A B ps = sD at *
    generalize wdB A B ps = sB at *
    clear hn hA hl h64
    go_enter Try.func6, Try.ntmps6
    go_wp2_with fail
    generalize w.alloc (.cells #[.slice a n ca] 25) = V at *
    refine (HZA.out _).mono ?_
    rintro e w1 ⟨rfl, bl1⟩
    have b1 := below_to b0 bl1
    have p0 := cell_to q0 bl1
    clear bl1 b0 q0
    have hz1 : ¬ ((1048576 - (n : Int)) < 0) := by omega
    go_wp2_with fail
    refine (HTA.out _ b1).mono ?_
    rintro e wA ⟨aA, cA, rfl, hoA, blA⟩
    have HoA := Lib.hid hoA
    clear hoA
    have p0_1 := cell_to p0 blA
    have b_2 := below_to b1 blA
    clear p0 b1
    clear blA
    go_wp2_with fail
    refine (HS.out _ _ _ (own_nil HoA.out) (own_hs HoA.out)).mono ?_
    rintro e wC ⟨rfl, blC⟩
    have p0_3 := cell_to p0_1 blC
    have b_4 := below_to b_2 blC
    clear p0_1 b_2
    clear HoA blC
    obtain ⟨x6, x7, _, _⟩ := two_new wC (.int .i64 sN) (.int .i64 sD) 43
    have bqwC := below_one wC (.cells #[.int .i64 sN, .int .i64 sD] 43)
    have p0_5 := cell_to p0_3 bqwC
    have b_6 := below_to b_4 bqwC
    clear p0_3 b_4
    clear bqwC
    go_wp2_with fail
    generalize wC.alloc (.cells #[.int .i64 sN, .int .i64 sD] 43) = Y0 at *
    generalize wC.heap.size = bw at *
    refine (HTA.out _ b_6).mono ?_
    rintro e w4 ⟨ax, cx, rfl, how4, blw4⟩
    have KX := Lib.hid (own_below how4 (below_one w4 (.cells #[.slice ax n cx] 37)))
    obtain ⟨x8, _⟩ := box_one (U := w4) rfl (.slice ax n cx) 37
    have bxw4 := below_to blw4 (below_one w4 (.cells #[.slice ax n cx] 37))
    have p0_7 := cell_to p0_5 bxw4
    have x6_8 := cell_to x6 bxw4
    have x7_9 := cell_to x7 bxw4
    have b_10 := below_to b_6 bxw4
    clear p0_5 x6 x7 b_6
    clear how4 blw4 bxw4
    go_wp2_with fail
    generalize w4.alloc (.cells #[.slice ax n cx] 37) = X at *
    generalize w4.heap.size = bx at *
    refine (HI.out _ _ _ (own_hs KX.out)).mono ?_
    rintro e w6 ⟨rfl, bl6⟩
    have p0_11 := cell_to p0_7 bl6
    have x6_12 := cell_to x6_8 bl6
    have x7_13 := cell_to x7_9 bl6
    have x8_14 := cell_to x8 bl6
    have KX_15 := Lib.hid (own_below KX.out bl6)
    have b_16 := below_to b_10 bl6
    clear p0_7 x6_8 x7_9 x8 KX b_10
    clear bl6
    obtain ⟨x10, x11, _, _⟩ := two_new w6 (.int .i64 sN) (.int .i64 sD) 43
    have bqw6 := below_one w6 (.cells #[.int .i64 sN, .int .i64 sD] 43)
    have p0_17 := cell_to p0_11 bqw6
    have x6_18 := cell_to x6_12 bqw6
    have x7_19 := cell_to x7_13 bqw6
    have x8_20 := cell_to x8_14 bqw6
    have KX_21 := Lib.hid (own_below KX_15.out bqw6)
    have b_22 := below_to b_16 bqw6
    clear p0_11 x6_12 x7_13 x8_14 KX_15 b_16
    clear bqw6
    go_wp2_with fail
    generalize w6.alloc (.cells #[.int .i64 sN, .int .i64 sD] 43) = Z at *
    generalize w6.heap.size = bg at *
    refine (eqr_wid sN sD _).mono ?_
    rintro e w7 ⟨rfl, bl7⟩
    have p0_23 := cell_to p0_17 bl7
    have x6_24 := cell_to x6_18 bl7
    have x7_25 := cell_to x7_19 bl7
    have x8_26 := cell_to x8_20 bl7
    have x10_27 := cell_to x10 bl7
    have x11_28 := cell_to x11 bl7
    have KX_29 := Lib.hid (own_below KX_21.out bl7)
    have b_30 := below_to b_22 bl7
    clear p0_17 x6_18 x7_19 x8_20 x10 x11 KX_21 b_22
    clear bl7
    go_wp2
    go_region_held3 (fun w' => w'.cell? ⟨bx, 0, none⟩ = some (.slice ax n cx) ∧ w'.cell? ⟨w.heap.size, 0, none⟩ = some (.slice a n ca))
      ((refine twoc x8_26 p0_23 ?_; repeat (first | exact Below.refl _ _ | refine below_drw ?_ | refine below_to ?_ (by assumption))))
      (first | (go_at_call 17; (with_reducible refine (HTA.out _ ?_).mono ?_); (focus (repeat (first | exact b_30 | refine below_drw ?_ | refine below_to ?_ (by assumption)))); rintro e w20 ⟨ao20, cp20, rfl, ho20, bl20⟩) | (go_at_call 20; (with_reducible refine (HEA.out _ _ _ _ _ ?_ ?_).mono ?_); (focus ((refine (own_hs KX_29.out).below ?_); repeat (first | exact Below.refl _ _ | refine below_drw ?_ | refine below_to ?_ (by assumption)))); (focus (exact own_hs ho20)); rintro e w21 ⟨rfl, bl21⟩))
    all_goals
      go_wp2
      go_ret
      refine ⟨rfl, ?_⟩
      repeat (first | exact b_30 | refine below_drw ?_ | refine below_to ?_ (by assumption))
  · have HZA := Lib.hid (fun V => sz_region a n ca V hn 1048576 (by omega) (by omega) (-1) (by rw [if_neg hle]))
    clear hn hA hl h64 hle
    go_enter Try.func6, Try.ntmps6
    go_wp2_with fail
    generalize w.alloc (.cells #[.slice a n ca] 25) = V at *
    refine (HZA.out _).mono ?_
    rintro e w1 ⟨rfl, bl1⟩
    have b1 := below_to b0 bl1
    go_wp2
    go_ret
    exact ⟨rfl, b1⟩
end Go.Proofs.Ytceeninhjlonbaa
