/- The walk of the law of InnerSpot. -/
import Derived.Test.YtobmaajfdpcfmaaNb
namespace Go.Proofs.Ytobmaajfdpcfmaa
open Go.RowKit
open Geo (H3)

set_option maxRecDepth 100000 in
set_option maxHeartbeats 3200000 in
theorem law_inn (a : Option Addr) (n cap : Nat) (hs : List H3) (w : World) (hl : hs.length = n) (hn : n ≤ maxLen) (h64 : ∀ h ∈ hs, In64 h) (hA : HsAt w a hs) :
    Calls Try.prog 15 #[.agg #[.slice a n cap]] w fun e w' => e = .returned (.bool true) ∧ Below w.heap.size w w' := by
  by_cases hle : (n : Int) ≤ 1048576
  · have HT := Lib.hid (fun V (h : Below w.heap.size w V) => to_region2 a n cap hs V hl (by omega) (hA.below h))
    have HE := Lib.hid (fun V a1 a2 c1 c2 (h1 : HsAt V a1 hs) (h2 : HsAt V a2 hs) => eq_region a1 a2 n c1 c2 hs V hl (by omega) h1 h2)
    have HZ := Lib.hid (fun V => sz_region a n cap V hn 1048576 (by omega) (by omega) (1048576 - n) (by rw [if_pos hle]))
    have HS := Lib.hid (fun V a1 c1 (h0 : a1 = none → n = 0 ∧ c1 = 0) (h1 : HsAt V a1 hs) => spec_inn a1 n c1 hs V hl (by omega) h64 h0 h1)
    have HI := Lib.hid (fun V a1 c1 (h1 : HsAt V a1 hs) => impl_inn a1 n c1 hs V hl (by omega) h64 h1)
    unfold innV at HS HI
    generalize (innA hs).1.a = X at *
    generalize (innA hs).1.b = Y at *
    generalize (innA hs).1.c = D at *
    generalize (innA hs).2 = B at *
    clear hn hA hl h64
    go_enter Try.func15, Try.ntmps15
    go_wp2_with fail
    refine (HZ.out _).mono ?_
    rintro e w1 ⟨rfl, bl1⟩
    have q1 := cell_to (show (w.alloc (.cells #[.slice a n cap] 60)).cell? ⟨w.heap.size, 0, none⟩ = some (.slice a n cap) by simp) bl1
    have b1 := below_to (below_one _ _) bl1
    clear bl1
    go_wp2_with fail
    refine (HT.out _ b1).mono ?_
    rintro e w2 ⟨ao2, cp2, rfl, ho2, bl2⟩
    have b2 := below_to b1 bl2
    have q2 := cell_to q1 bl2
    have N2 := Lib.hid (own_nil ho2)
    have A2 := Lib.hid (own_hs ho2)
    clear ho2 bl2 b1 q1
    go_wp2_with fail
    refine (HS.out _ _ _ N2.out A2.out).mono ?_
    rintro e w3 ⟨rfl, bl3⟩
    have bl3' := below_bx2 bl3 (.cells #[.int .i64 X, .int .i64 Y, .int .i64 D] 31)
    have b3 := below_to b2 bl3'
    have q3 := cell_to q2 bl3'
    have T3 := has3_new w3 (.int .i64 X) (.int .i64 Y) (.int .i64 D) 31
    clear bl3 bl3' b2 q2 N2 A2
    go_wp2_with fail
    generalize w3.alloc (.cells #[.int .i64 X, .int .i64 Y, .int .i64 D] 31) = U at *
    obtain ⟨bs, hbs⟩ : ∃ b, w3.heap.size = b := ⟨_, rfl⟩
    rw [hbs] at T3 ⊢
    clear hbs
    refine (HT.out _ b3).mono ?_
    rintro e w4 ⟨ax, cx, rfl, ho4, bl4⟩
    have blx := below_bx2 bl4 (.cells #[.slice ax n cx] 26)
    have bX := below_to b3 blx
    have qX := cell_to q3 blx
    have TX := has3_to blx T3
    have KX := Lib.hid (own_below ho4 (below_one w4 (.cells #[.slice ax n cx] 26)))
    have x5 : (w4.alloc (.cells #[.slice ax n cx] 26)).cell? ⟨w4.heap.size, 0, none⟩ = some (.slice ax n cx) := by simp
    clear ho4 bl4 b3 q3 T3 blx
    go_wp2_with fail
    generalize w4.alloc (.cells #[.slice ax n cx] 26) = V at *
    obtain ⟨bx, hbx⟩ : ∃ b, w4.heap.size = b := ⟨_, rfl⟩
    rw [hbx] at x5 ⊢
    clear hbx
    refine (HI.out _ _ _ (own_hs KX.out)).mono ?_
    rintro e w5 ⟨rfl, bl5⟩
    have bl5' := below_bx2 bl5 (.cells #[.int .i64 X, .int .i64 Y, .int .i64 D] 31)
    have b5 := below_to bX bl5'
    have q5 := cell_to qX bl5'
    have y5 := cell_to x5 bl5'
    have T5 := has3_to bl5' TX
    have K5 := Lib.hid (own_below KX.out bl5')
    have S5 := has3_new w5 (.int .i64 X) (.int .i64 Y) (.int .i64 D) 31
    clear bl5 bl5' bX qX x5 TX KX
    obtain ⟨t0, t1, t2, f0, f1, f2⟩ := T5
    obtain ⟨s0, s1, s2, g0, g1, g2⟩ := S5
    go_wp2_with fail
    generalize w5.alloc (.cells #[.int .i64 X, .int .i64 Y, .int .i64 D] 31) = W at *
    refine (eq_spot X Y D W).mono ?_
    rintro e w6 ⟨rfl, bl6⟩
    have b6 := below_to b5 bl6
    have q6 := cell_to q5 bl6
    have y6 := cell_to y5 bl6
    have K6 := Lib.hid (own_below K5.out bl6)
    clear bl6 b5 q5 y5 K5 t0 t1 t2 f0 f1 f2 s0 s1 s2 g0 g1 g2
    go_wp2
    go_region_held3 (fun w' => w'.cell? ⟨bx, 0, none⟩ = some (.slice ax n cx) ∧ w'.cell? ⟨w.heap.size, 0, none⟩ = some (.slice a n cap))
      ((refine twoc y6 q6 ?_; repeat (first | exact Below.refl _ _ | refine below_drw ?_ | refine below_to ?_ (by assumption))))
      (first | (go_at_call 43; (with_reducible refine (HT.out _ ?_).mono ?_); (focus (repeat (first | exact b6 | refine below_drw ?_ | refine below_to ?_ (by assumption)))); rintro e w7 ⟨ao7, cp7, rfl, ho7, bl7⟩) | (go_at_call 45; (with_reducible refine (HE.out _ _ _ _ _ ?_ ?_).mono ?_); (focus ((refine (own_hs K6.out).below ?_); repeat (first | exact Below.refl _ _ | refine below_drw ?_ | refine below_to ?_ (by assumption)))); (focus (exact own_hs ho7)); rintro e w8 ⟨rfl, bl8⟩))
    go_wp2
    go_ret
    exact ⟨rfl, below_to (below_to (below_drw b6) bl7) bl8⟩
  · have HZ := Lib.hid (fun V => sz_region a n cap V hn 1048576 (by omega) (by omega) (-1) (by rw [if_neg hle]))
    clear hn hA hl hle h64
    go_enter Try.func15, Try.ntmps15
    go_wp2_with fail
    refine (HZ.out _).mono ?_
    rintro e w1 ⟨rfl, bl1⟩
    go_wp2
    go_ret
    exact ⟨rfl, below_to (below_one _ _) bl1⟩
end Go.Proofs.Ytobmaajfdpcfmaa
