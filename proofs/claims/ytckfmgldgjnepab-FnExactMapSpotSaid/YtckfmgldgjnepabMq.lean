/- The walk of the law of MapSpot. -/
import Derived.Test.YtckfmgldgjnepabMp
namespace Go.Proofs.Ytckfmgldgjnepab
open Go.RowKit
open Geo (H3)

theorem ms_ex (x y d : Int) (zs : List Int) (q : Int) : ∃ X Y D : Int, ∃ B : Bool, msV x y d zs q = .tuple #[.agg #[.int .i64 X, .int .i64 Y, .int .i64 D], .bool B] := by
  unfold msV
  split
  · exact ansS_ex _ _ _
  · exact ⟨0, 0, 0, false, rfl⟩
set_option maxRecDepth 100000 in
set_option maxHeartbeats 3200000 in
theorem law_ms (x y d : Int) (a : Option Addr) (n cap : Nat) (zs : List Int) (q : Int) (wx : (Lit.int .i64 x).wf = true) (wy : (Lit.int .i64 y).wf = true) (wd : (Lit.int .i64 d).wf = true) (_wq : (Lit.int .i64 q).wf = true) (w : World) (hl : zs.length = n) (hn : n ≤ maxLen) (_hi : ∀ z ∈ zs, (Lit.int .i64 z).wf = true) (hA : IsAt w a zs) :
    Calls Try.prog 7 #[.agg #[.int .i64 x, .int .i64 y, .int .i64 d], .slice a n cap, .int .i64 q] w fun e w' => e = .returned (.bool true) ∧ Below w.heap.size w w' := by
  have b0 := below_one w (.cells #[.int .i64 x, .int .i64 y, .int .i64 d] 46)
  have r0 := tri_new w (.int .i64 x) (.int .i64 y) (.int .i64 d) 46
  by_cases hle : n ≤ 1048576
  · have hgt : ¬ ((1048576 : Int) < (n : Int)) := by omega
    have HT := Lib.hid (fun V (h : Below w.heap.size w V) => to_ints a n cap zs V hl hle (hA.below h))
    have HE := Lib.hid (fun V a1 a2 c1 c2 (h1 : IsAt V a1 zs) (h2 : IsAt V a2 zs) => eq_ints a1 a2 n c1 c2 zs V hl hle h1 h2)
    have HS := Lib.hid (fun V a1 c1 (h1 : IsAt V a1 zs) => spec_ms x y d a1 n c1 zs q V ⟨bounds_i64 wx, bounds_i64 wy, bounds_i64 wd⟩ hl h1)
    have HI := Lib.hid (fun V a1 c1 (h1 : IsAt V a1 zs) => impl_ms x y d a1 n c1 zs q V ⟨bounds_i64 wx, bounds_i64 wy, bounds_i64 wd⟩ hl h1)
    obtain ⟨X, Y, D, B, hv⟩ := ms_ex x y d zs q
    rw [hv] at HS HI
    clear hv hn hA hl wx wy wd
    go_enter Try.func7, Try.ntmps7
    obtain ⟨f1, f2, f3⟩ := id r0
    simp only [Nat.zero_add] at f1 f2 f3
    go_wp2_with fail
    clear f1 f2 f3
    generalize w.alloc (.cells #[.int .i64 x, .int .i64 y, .int .i64 d] 46) = V at *
    refine (to_spot x y d _).mono ?_
    rintro e w1 ⟨rfl, bl1⟩
    have b1 := below_to b0 bl1
    have r1 := r0.to bl1
    clear b0 r0 bl1
    go_wp2_with fail
    refine (HT.out _ b1).mono ?_
    rintro e w2 ⟨a2, c2, rfl, ho2, bl2⟩
    have b2 := below_to b1 bl2
    have r2 := r1.to bl2
    have HO2 := Lib.hid ho2
    clear b1 r1 bl2 ho2
    go_wp2_with fail
    refine (HS.out _ _ _ (own_ints HO2.out)).mono ?_
    rintro e w3 ⟨rfl, bl3⟩
    have bq3 := below_to bl3 (below_one w3 (.cells #[.int .i64 X, .int .i64 Y, .int .i64 D] 47))
    have b3 := below_to b2 bq3
    have r3 := r2.to bq3
    have t3 := tri_new w3 (.int .i64 X) (.int .i64 Y) (.int .i64 D) 47
    clear b2 r2 bl3 bq3 HO2
    go_wp2_with fail
    generalize w3.alloc (.cells #[.int .i64 X, .int .i64 Y, .int .i64 D] 47) = W3 at *
    generalize w3.heap.size = x3 at *
    refine (HT.out _ b3).mono ?_
    rintro e w4 ⟨a4, c4, rfl, ho4, bl4⟩
    have b4 := below_to b3 bl4
    have r4 := r3.to bl4
    have t4 := t3.to bl4
    have HO4 := Lib.hid ho4
    clear b3 r3 t3 bl4 ho4
    obtain ⟨f1, f2, f3⟩ := id r4
    simp only [Nat.zero_add] at f1 f2 f3
    go_wp2_with fail
    clear f1 f2 f3
    refine (to_spot x y d _).mono ?_
    rintro e w5 ⟨rfl, bl5⟩
    have b5 := below_to b4 bl5
    have t5 := t4.to bl5
    have HO5 := Lib.hid (own_below HO4.out bl5)
    clear b4 r4 t4 bl5 HO4
    go_wp2_with fail
    refine (HI.out _ _ _ (own_ints HO5.out)).mono ?_
    rintro e w6 ⟨rfl, bl6⟩
    have bq6 := below_to bl6 (below_one w6 (.cells #[.int .i64 X, .int .i64 Y, .int .i64 D] 47))
    have b6 := below_to b5 bq6
    have t6 := t5.to bq6
    have s6 := tri_new w6 (.int .i64 X) (.int .i64 Y) (.int .i64 D) 47
    have HO6 := Lib.hid (own_below HO5.out bq6)
    clear b5 t5 bl6 bq6 HO5
    obtain ⟨g1, g2, g3⟩ := id t6
    obtain ⟨h1, h2, h3⟩ := id s6
    simp only [Nat.zero_add] at g1 g2 g3 h1 h2 h3
    go_wp2_with fail
    generalize w6.alloc (.cells #[.int .i64 X, .int .i64 Y, .int .i64 D] 47) = W6 at *
    refine (eq_spot _ _ _ _).mono ?_
    rintro e w7 ⟨rfl, bl7⟩
    have b7 := below_to b6 bl7
    have HO7 := Lib.hid (own_below HO6.out bl7)
    clear b6 t6 s6 bl7 HO6 g1 g2 g3 h1 h2 h3
    go_wp2_with fail
    refine (HT.out _ b7).mono ?_
    rintro e w8 ⟨a8, c8, rfl, ho8, bl8⟩
    have b8 := below_to b7 bl8
    have HO8 := Lib.hid (own_below HO7.out bl8)
    have HP8 := Lib.hid ho8
    clear b7 bl8 ho8 HO7
    go_wp2_with fail
    refine (HE.out _ _ _ _ _ (own_ints HO8.out) (own_ints HP8.out)).mono ?_
    rintro e w9 ⟨rfl, bl9⟩
    have b9 := below_to b8 bl9
    go_wp2
    go_ret
    exact ⟨rfl, b9⟩
  · have hgt : (1048576 : Int) < (n : Int) := by omega
    clear hn hA hl wx wy wd hle
    go_enter Try.func7, Try.ntmps7
    go_wp2
    go_ret
    exact ⟨rfl, b0⟩
end Go.Proofs.Ytckfmgldgjnepab
