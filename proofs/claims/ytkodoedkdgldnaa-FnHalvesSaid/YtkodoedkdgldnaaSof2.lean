/- The contract of the program's SpotOf over the translation, away from the least int. -/
import Derived.Test.YtkodoedkdgldnaaSof
namespace Go.Proofs.Ytkodoedkdgldnaa
open Go.RowKit

theorem ansS_if {x y d X Y D : Int} {g : Int} (hg : g = (gS x y d : Int)) (h1 : 1 ≤ d) (hX : x.tdiv g = X) (hY : y.tdiv g = Y) (hD : d.tdiv g = D) :
    ansS x y d = .tuple #[.agg #[.int .i64 (kp (okS X Y D) X), .int .i64 (kp (okS X Y D) Y), .int .i64 (kp (okS X Y D) D)], .bool (okS X Y D)] := by
  subst hg; subst hX; subst hY; subst hD
  unfold ansS; rw [hasS_of h1]

set_option maxHeartbeats 3200000 in
theorem impl_sof (x y d : Int) (w : World) (hx : -9223372036854775807 ≤ x) (hx2 : x ≤ 9223372036854775807) (hy : -9223372036854775807 ≤ y) (hy2 : y ≤ 9223372036854775807) (hd : -9223372036854775808 ≤ d) (hd2 : d ≤ 9223372036854775807) :
    Calls Try.prog 47 #[.int .i64 x, .int .i64 y, .int .i64 d] w fun e w' => e = .returned (ansS x y d) ∧ Below w.heap.size w w' := by
  have hb := below_box w (.cells #[.int .i64 0, .int .i64 0, .int .i64 0] 27)
  have H0 := has3_new w (.int .i64 0) (.int .i64 0) (.int .i64 0) 27
  by_cases h1 : 1 ≤ d
  · have HX := Lib.hid (fun W => magn x W (by omega) hx2)
    have HY := Lib.hid (fun W => magn y W (by omega) hy2)
    have HZ := Lib.hid (fun W => magn d W hd hd2)
    have HG := Lib.hid (fun W => gcd_mag x.natAbs y.natAbs W (by omega) (by omega))
    have hq : Nat.gcd x.natAbs y.natAbs ≤ 9223372036854775808 := by
      have := gcd_le_max x y 9223372036854775807 hx hx2 hy hy2
      have e : (Int.gcd x y : Int) = ((Nat.gcd x.natAbs y.natAbs : Nat) : Int) := rfl
      omega
    have HK := Lib.hid (fun W => gcd_mag (Nat.gcd x.natAbs y.natAbs) d.natAbs W hq (by omega))
    have hg0 : (1 : Int) ≤ (gS x y d : Int) := by have := gS_pos x y d h1; omega
    have hg1 := gS_le x y d h1
    have e : (gS x y d : Int) = ((Nat.gcd (Nat.gcd x.natAbs y.natAbs) d.natAbs : Nat) : Int) := rfl
    have HE := Lib.hid e
    rw [e] at hg0 hg1
    clear e
    generalize Nat.gcd (Nat.gcd x.natAbs y.natAbs) d.natAbs = g at *
    generalize Nat.gcd x.natAbs y.natAbs = G at *
    generalize x.natAbs = xa at *
    generalize y.natAbs = ya at *
    generalize d.natAbs = da at *
    have hX := tdiv_le x g 9223372036854775807 hx hx2
    have hY := tdiv_le y g 9223372036854775807 hy hy2
    have hD := tdiv_le d g 9223372036854775807 (by omega) hd2
    have hDe : d / (g : Int) = d.tdiv g := (Int.tdiv_eq_ediv_of_nonneg (by omega)).symm
    generalize ex : x.tdiv g = X at *
    generalize ey : y.tdiv g = Y at *
    generalize ed : d.tdiv g = D at *
    have HA := Lib.hid (ansS_if HE.out.symm h1 ex ey ed)
    generalize ansS x y d = A at *
    have HO := Lib.hid (fun W => if_ok X Y D W (by omega) (by omega) (by omega) (by omega) (by omega) (by omega))
    generalize kp (okS X Y D) X = X' at *
    generalize kp (okS X Y D) Y = Y' at *
    generalize kp (okS X Y D) D = D' at *
    generalize okS X Y D = B at *
    clear hDe HE
    have v0 : IntKind.i64.wrap X = X := IntWalk.i64_in _ (by omega)
    have v1 : IntKind.i64.wrap Y = Y := IntWalk.i64_in _ (by omega)
    have v2 : IntKind.i64.wrap D = D := IntWalk.i64_in _ (by omega)
    have g0 : ((g : Int) == 0) = false := by simp; omega
    go_enter Try.func47, Try.ntmps47
    go_wp2_with fail
    refine (HX.out _).mono ?_
    rintro e w1 ⟨rfl, rfl⟩
    go_wp2_with fail
    refine (HY.out _).mono ?_
    rintro e w1 ⟨rfl, rfl⟩
    go_wp2_with fail
    refine (HG.out _).mono ?_
    rintro e w1 ⟨rfl, k1, rfl⟩
    go_wp2_with fail
    refine (HZ.out _).mono ?_
    rintro e w1 ⟨rfl, rfl⟩
    go_wp2_with fail
    refine (HK.out _).mono ?_
    rintro e w1 ⟨rfl, k2, rfl⟩
    go_wp2_with fail
    have hV := below_drew hb (k1 + k2)
    have H1 := has3_to (below_drew (Below.refl _ (w.alloc (.cells #[.int .i64 0, .int .i64 0, .int .i64 0] 27))) (k1 + k2)) H0
    clear hb H0 HX HY HZ HG HK
    generalize (w.alloc (.cells #[.int .i64 0, .int .i64 0, .int .i64 0] 27)).drewN (k1 + k2) = V at *
    have HV := Lib.hid hV
    have HH := Lib.hid H1
    clear hV H1
    go_region_with ((go_at_call 53; refine (HO.out _).mono ?_; rintro e w2 ⟨rfl, bl2⟩; obtain ⟨p0, p1, p2, f0, f1, f2⟩ := has3_to (below_to (below_drw (Below.refl _ V)) bl2) HH.out))
    all_goals
      go_wp2_with fail
      refine bodyPost_ret (v := .tuple #[.agg #[.int .i64 X', .int .i64 Y', .int .i64 D'], .bool B]) (by simp [results, Try.results47, go_sem, p0, p1, p2]) rfl ⟨by rw [HA.out], ?_⟩
      exact below_set3 _ _ _ (below_to (below_drw HV.out) bl2) (Nat.le_refl _)
  · rw [ansS_no (hasS_no h1)]
    unfold zeroS
    go_enter Try.func47, Try.ntmps47
    go_wp2_with fail
    refine bodyPost_ret (v := .tuple #[.agg #[.int .i64 0, .int .i64 0, .int .i64 0], .bool false]) (by simp [results, Try.results47, go_sem]) rfl ⟨rfl, ?_⟩
    exact hb
end Go.Proofs.Ytkodoedkdgldnaa
