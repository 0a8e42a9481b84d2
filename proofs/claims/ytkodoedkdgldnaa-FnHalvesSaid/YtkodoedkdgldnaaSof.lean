/- The contracts of both SpotOf functions over the translation, away from the least int, and of spotIfOk. -/
import Derived.Test.YtkodoedkdgldnaaSame
import Derived.IntWalk
namespace Go.Proofs.Ytkodoedkdgldnaa
open Go.RowKit

/-- a struct of three fields that lies at a block and may be written -/
def Has3 (W : World) (g : Nat) (a b c : Value) : Prop := W.cell? ⟨g, 0, none⟩ = some a ∧ W.cell? ⟨g, 1, none⟩ = some b ∧ W.cell? ⟨g, 2, none⟩ = some c ∧ W.frozen? ⟨g, 0, none⟩ = false ∧ W.frozen? ⟨g, 1, none⟩ = false ∧ W.frozen? ⟨g, 2, none⟩ = false
theorem has3_new (w : World) (a b c : Value) (T : TypeId) : Has3 (w.alloc (.cells #[a, b, c] T)) w.heap.size a b c :=
  ⟨(box3 w a b c T).1, (box3 w a b c T).2.1, (box3 w a b c T).2.2, frozen_of_row _ _ 0 _ _ (heap_alloc_new w _), frozen_of_row _ _ 1 _ _ (heap_alloc_new w _), frozen_of_row _ _ 2 _ _ (heap_alloc_new w _)⟩
theorem has3_to {V X : World} {g : Nat} {a b c : Value} (hb : Below V.heap.size V X) (p : Has3 V g a b c) : Has3 X g a b c :=
  ⟨by rw [hb.cell (block_lt_of_cell p.1)]; exact p.1, by rw [hb.cell (block_lt_of_cell p.2.1)]; exact p.2.1, by rw [hb.cell (block_lt_of_cell p.2.2.1)]; exact p.2.2.1,
   by rw [hb.frozen (block_lt_of_cell p.1)]; exact p.2.2.2.1, by rw [hb.frozen (block_lt_of_cell p.2.1)]; exact p.2.2.2.2.1, by rw [hb.frozen (block_lt_of_cell p.2.2.1)]; exact p.2.2.2.2.2⟩
theorem has3_lt {V : World} {g : Nat} {a b c : Value} (p : Has3 V g a b c) : g < V.heap.size := block_lt_of_cell p.1
theorem below_set3 {w w' : World} {g : Nat} (a b c : Value) (h : Below w.heap.size w w') (hg : w.heap.size ≤ g) : Below w.heap.size w (((w'.setCell ⟨g, 0, none⟩ a).setCell ⟨g, 1, none⟩ b).setCell ⟨g, 2, none⟩ c) :=
  ((h.setCell hg _).setCell hg _).setCell hg _
/-- the number, or 0 -/
def kp (b : Bool) (n : Int) : Int := if b = true then n else 0
theorem kp_t (n : Int) : kp true n = n := rfl
theorem kp_f (n : Int) : kp false n = 0 := rfl

set_option maxHeartbeats 1600000 in
theorem if_ok (x y d : Int) (w : World) (hx : -9223372036854775808 ≤ x) (hx2 : x ≤ 9223372036854775807) (hy : -9223372036854775808 ≤ y) (hy2 : y ≤ 9223372036854775807) (hd : -9223372036854775808 ≤ d) (hd2 : d ≤ 9223372036854775807) :
    Calls Try.prog 53 #[.agg #[.int .i64 x, .int .i64 y, .int .i64 d]] w fun e w' => e = .returned (.tuple #[.agg #[.int .i64 (kp (okS x y d) x), .int .i64 (kp (okS x y d) y), .int .i64 (kp (okS x y d) d)], .bool (okS x y d)]) ∧ Below w.heap.size w w' := by
  have HX := Lib.hid (fun W => impl_sok x y d W hx hx2 hy hy2 hd hd2)
  have hb := below_bx2 (below_box w (.cells #[.int .i64 x, .int .i64 y, .int .i64 d] 27)) (.cells #[.int .i64 0, .int .i64 0, .int .i64 0] 27)
  have H0 := has3_to (below_box _ (.cells #[.int .i64 0, .int .i64 0, .int .i64 0] 27)) (has3_new w (.int .i64 x) (.int .i64 y) (.int .i64 d) 27)
  have H1 := has3_new (w.alloc (.cells #[.int .i64 x, .int .i64 y, .int .i64 d] 27)) (.int .i64 0) (.int .i64 0) (.int .i64 0) 27
  cases hk : okS x y d with
  | false =>
    rw [hk] at HX
    clear hk
    rw [kp_f, kp_f, kp_f]
    go_enter Try.func53, Try.ntmps53
    go_wp2_with fail
    refine (HX.out _).mono ?_
    rintro e w1 ⟨rfl, hb1⟩
    obtain ⟨p0, p1, p2, f0, f1, f2⟩ := has3_to hb1 H1
    have hbw := below_to hb hb1
    simp at p0 p1 p2 f0 f1 f2
    go_wp2_with fail
    refine bodyPost_ret (v := .tuple #[.agg #[.int .i64 0, .int .i64 0, .int .i64 0], .bool false]) (by simp [results, Try.results53, go_sem, p0, p1, p2]) rfl ⟨rfl, ?_⟩
    exact below_set3 _ _ _ hbw (by simp)
  | true =>
    rw [hk] at HX
    clear hk
    rw [kp_t, kp_t, kp_t]
    go_enter Try.func53, Try.ntmps53
    go_wp2_with fail
    refine (HX.out _).mono ?_
    rintro e w1 ⟨rfl, hb1⟩
    obtain ⟨p0, p1, p2, f0, f1, f2⟩ := has3_to hb1 H1
    obtain ⟨q0, q1, q2, _, _, _⟩ := has3_to hb1 H0
    have hbw := below_to hb hb1
    simp at p0 p1 p2 f0 f1 f2
    go_wp2_with fail
    refine bodyPost_ret (v := .tuple #[.agg #[.int .i64 x, .int .i64 y, .int .i64 d], .bool true]) (by simp [results, Try.results53, go_sem, p0, p1, p2]) rfl ⟨rfl, ?_⟩
    exact below_set3 _ _ _ hbw (by simp)

/-- what SpotOf answers -/
def ansS (x y d : Int) : Value := .tuple #[.agg #[.int .i64 (kp (hasS x y d) (x.tdiv (gS x y d))), .int .i64 (kp (hasS x y d) (y.tdiv (gS x y d))), .int .i64 (kp (hasS x y d) (d.tdiv (gS x y d)))], .bool (hasS x y d)]
def zeroS : Value := .tuple #[.agg #[.int .i64 0, .int .i64 0, .int .i64 0], .bool false]
def spotS (X Y D : Int) : Value := .tuple #[.agg #[.int .i64 X, .int .i64 Y, .int .i64 D], .bool true]
theorem ansS_no {x y d : Int} (h : hasS x y d = false) : ansS x y d = zeroS := by unfold ansS; rw [h]; rfl
theorem ansS_yes {x y d : Int} (h : hasS x y d = true) : ansS x y d = spotS (x.tdiv (gS x y d)) (y.tdiv (gS x y d)) (d.tdiv (gS x y d)) := by unfold ansS; rw [h]; rfl
theorem gcd_nz (x d : Int) (hd : 1 ≤ d) : ((Int.gcd x d : Int) == 0) = false := by
  have : 0 < Int.gcd x d := Nat.gcd_pos_of_pos_right _ (by omega)
  simp; omega

theorem boxes3 {w w1 : World} {a b c x y d : Value} {T U : TypeId} {k : Nat} (hb : Below (((w.alloc (.cells #[a, b, c] T)).drewN k).alloc (.cells #[x, y, d] U)).heap.size (((w.alloc (.cells #[a, b, c] T)).drewN k).alloc (.cells #[x, y, d] U)) w1) :
    Has3 w1 w.heap.size a b c ∧ Has3 w1 (w.heap.size + 1) x y d ∧ Below w.heap.size w w1 := by
  have b1 := below_drew (below_box w (.cells #[a, b, c] T)) k
  have b2 := below_bx2 b1 (.cells #[x, y, d] U)
  have d1 : Below (w.alloc (.cells #[a, b, c] T)).heap.size (w.alloc (.cells #[a, b, c] T)) ((w.alloc (.cells #[a, b, c] T)).drewN k) := below_drew (Below.refl _ _) k
  have h1 := has3_new ((w.alloc (.cells #[a, b, c] T)).drewN k) x y d U
  rw [show ((w.alloc (.cells #[a, b, c] T)).drewN k).heap.size = w.heap.size + 1 by simp] at h1
  exact ⟨has3_to (below_to (below_bx2 d1 _) hb) (has3_new w a b c T), has3_to hb h1, below_to b2 hb⟩

set_option maxHeartbeats 3200000 in
theorem spec_sof (x y d : Int) (w : World) (hx : -9223372036854775807 ≤ x) (hx2 : x ≤ 9223372036854775807) (hy : -9223372036854775807 ≤ y) (hy2 : y ≤ 9223372036854775807) (hd : -9223372036854775808 ≤ d) (hd2 : d ≤ 9223372036854775807) :
    Calls Try.prog 68 #[.int .i64 x, .int .i64 y, .int .i64 d] w fun e w' => e = .returned (ansS x y d) ∧ Below w.heap.size w w' := by
  have hb := below_box w (.cells #[.int .i64 0, .int .i64 0, .int .i64 0] 27)
  have H0 := has3_new w (.int .i64 0) (.int .i64 0) (.int .i64 0) 27
  by_cases h1 : 1 ≤ d
  · have HX := Lib.hid (fun W => spec_gcd x y W (by omega) hx2 (by omega) hy2)
    rw [gcdR_of x y (by omega) (by omega)] at HX
    have hg := gcd_le_max x y 9223372036854775807 hx hx2 hy hy2
    have HY := Lib.hid (fun W => spec_gcd (Int.gcd x y) d W (by omega) (by omega) hd hd2)
    rw [gcdR_of (Int.gcd x y) d (by omega) (by omega)] at HY
    have HU := Lib.hid (fun W => spec_gcd x d W (by omega) hx2 hd hd2)
    rw [gcdR_of x d (by omega) (by omega)] at HU
    have HV := Lib.hid (fun W => spec_gcd y d W (by omega) hy2 hd hd2)
    rw [gcdR_of y d (by omega) (by omega)] at HV
    have hu := gcd_nz x d h1
    have hv := gcd_nz y d h1
    have hg0 : (1 : Int) ≤ (gS x y d : Int) := by have := gS_pos x y d h1; omega
    have hg1 := gS_le x y d h1
    have hX := tdiv_le x (gS x y d) 9223372036854775807 hx hx2
    have hY := tdiv_le y (gS x y d) 9223372036854775807 hy hy2
    have hD := tdiv_le d (gS x y d) 9223372036854775807 (by omega) hd2
    have hDe : d / (gS x y d : Int) = d.tdiv (gS x y d) := (Int.tdiv_eq_ediv_of_nonneg (by omega)).symm
    have HS := Lib.hid (hasS_of (x := x) (y := y) h1)
    have HZ := Lib.hid (fun h => ansS_no (x := x) (y := y) (d := d) h)
    have HT := Lib.hid (fun h => ansS_yes (x := x) (y := y) (d := d) h)
    have HG := Lib.hid (show (Int.gcd (Int.gcd x y) d : Int) = (gS x y d : Int) from rfl)
    rw [HG.out] at HY
    clear HG
    generalize ansS x y d = A at *
    generalize hasS x y d = B at *
    generalize ((gS x y d : Nat) : Int) = g at *
    generalize ((Int.gcd x y : Nat) : Int) = G at *
    generalize ((Int.gcd x d : Nat) : Int) = U at *
    generalize ((Int.gcd y d : Nat) : Int) = V at *
    generalize ex : x.tdiv g = X at *
    generalize ey : y.tdiv g = Y at *
    generalize ed : d.tdiv g = D at *
    have HO := Lib.hid (fun W => spec_sok X Y D W (by omega) (by omega) (by omega) (by omega) (by omega) (by omega))
    clear ed
    have v0 : IntKind.i64.wrap X = X := IntWalk.i64_in _ (by omega)
    have v1 : IntKind.i64.wrap Y = Y := IntWalk.i64_in _ (by omega)
    have v2 : IntKind.i64.wrap D = D := IntWalk.i64_in _ (by omega)
    have g0 : (g == 0) = false := by simp; omega
    have C := fun b : Bool => (show (x != 0) = b ∨ (x != 0) = !b by cases (x != 0) <;> cases b <;> simp)
    have hx0 : ((x != 0) = true ∧ (x == 0) = false) ∨ ((x != 0) = false ∧ (x == 0) = true) := by
      by_cases h : x = 0 <;> simp [h]
    have hy0 : ((y != 0) = true ∧ (y == 0) = false) ∨ ((y != 0) = false ∧ (y == 0) = true) := by
      by_cases h : y = 0 <;> simp [h]
    clear C
    rcases hx0 with ⟨x0, x1⟩ | ⟨x0, x1⟩ <;> rcases hy0 with ⟨y0, y1⟩ | ⟨y0, y1⟩
    all_goals
      go_enter Try.func68, Try.ntmps68
      go_wp2_with fail
      refine (HX.out _).mono ?_
      rintro e w1 ⟨rfl, k1, rfl⟩
      go_wp2_with fail
      refine (HY.out _).mono ?_
      rintro e w1 ⟨rfl, k2, rfl⟩
      go_wp2_with (go_at_call 60; first | (with_reducible refine (HU.out _).mono ?_; rintro e w1 ⟨rfl, k3, rfl⟩) | (with_reducible refine (HV.out _).mono ?_; rintro e w1 ⟨rfl, k4, rfl⟩))
      go_region
      try rw [hDe]
      clear v0 v1 v2 ex ey hDe x0 x1 y0 y1 hu hv g0 hg hg0 hg1 HX HY HU HV
      go_wp2_with fail
      refine (HO.out _).mono ?_
      cases hk : okS X Y D with
      | false =>
        rw [hk] at HS
        have HA := Lib.hid (HZ.out HS.out)
        clear hk HS HZ HT HO
        rintro e w2 ⟨rfl, hb2⟩
        obtain ⟨⟨p0, p1, p2, f0, f1, f2⟩, _, hbw⟩ := boxes3 hb2
        clear hb2
        go_wp2_with fail
        refine bodyPost_ret (v := .tuple #[.agg #[.int .i64 0, .int .i64 0, .int .i64 0], .bool false]) (by simp [results, Try.results68, go_sem, p0, p1, p2]) rfl ⟨by rw [HA.out]; rfl, ?_⟩
        exact below_set3 _ _ _ hbw (Nat.le_refl _)
      | true =>
        rw [hk] at HS
        have HA := Lib.hid (HT.out HS.out)
        clear hk HS HZ HT HO
        rintro e w2 ⟨rfl, hb2⟩
        obtain ⟨⟨p0, p1, p2, f0, f1, f2⟩, ⟨q0, q1, q2, _, _, _⟩, hbw⟩ := boxes3 hb2
        clear hb2
        go_wp2_with fail
        refine bodyPost_ret (v := .tuple #[.agg #[.int .i64 X, .int .i64 Y, .int .i64 D], .bool true]) (by simp [results, Try.results68, go_sem, p0, p1, p2]) rfl ⟨by rw [HA.out]; rfl, ?_⟩
        exact below_set3 _ _ _ hbw (Nat.le_refl _)
  · rw [ansS_no (hasS_no h1)]
    unfold zeroS
    go_enter Try.func68, Try.ntmps68
    go_wp2_with fail
    refine bodyPost_ret (v := .tuple #[.agg #[.int .i64 0, .int .i64 0, .int .i64 0], .bool false]) (by simp [results, Try.results68, go_sem]) rfl ⟨rfl, ?_⟩
    exact hb
end Go.Proofs.Ytkodoedkdgldnaa
