/- The contracts of both SpotOk and IsWhole functions over the translation, and the walks of their laws. The contracts of both SameSpot functions over the translation, and the walk of their law. The contracts of both SpotOf functions over the translation, away from the least int, and of spotIfOk. The contract of the program's SpotOf over the translation, away from the least int. The contracts of both ShiftSpot and HalfWay functions over the translation. The walk of ShiftSpot's law. The contracts of both HalfWay functions over the translation. The walk of HalfWay's law. -/
import Derived.Test.YtibkmhmeoelpdaaQty
import Derived.Deep.RegionHeld3
import Derived.Deep.CutRange
import Derived.Deep.RegionWith
import Derived.IntWalk
namespace Go.Proofs.Ytibkmhmeoelpdaa
open Go.RowKit

theorem below_to {V W X : World} (h : Below V.heap.size V W) (k : Below W.heap.size W X) : Below V.heap.size V X := h.trans (k.mono h.size)
theorem box3 (w : World) (a b c : Value) (T : TypeId) : (w.alloc (.cells #[a, b, c] T)).cell? ⟨w.heap.size, 0, none⟩ = some a ∧ (w.alloc (.cells #[a, b, c] T)).cell? ⟨w.heap.size, 1, none⟩ = some b ∧ (w.alloc (.cells #[a, b, c] T)).cell? ⟨w.heap.size, 2, none⟩ = some c :=
  ⟨cell_of_row _ _ _ _ _ _ (heap_alloc_new w _), cell_of_row _ _ _ _ _ _ (heap_alloc_new w _), cell_of_row _ _ _ _ _ _ (heap_alloc_new w _)⟩
theorem three {V X : World} {g : Nat} {a b c : Value} (hb : Below V.heap.size V X) (p : V.cell? ⟨g, 0, none⟩ = some a ∧ V.cell? ⟨g, 1, none⟩ = some b ∧ V.cell? ⟨g, 2, none⟩ = some c) :
    X.cell? ⟨g, 0, none⟩ = some a ∧ X.cell? ⟨g, 1, none⟩ = some b ∧ X.cell? ⟨g, 2, none⟩ = some c :=
  ⟨by rw [hb.cell (block_lt_of_cell p.1)]; exact p.1, by rw [hb.cell (block_lt_of_cell p.2.1)]; exact p.2.1, by rw [hb.cell (block_lt_of_cell p.2.2)]; exact p.2.2⟩
theorem lt_box (w : World) (o : Obj) : w.heap.size < (w.alloc o).heap.size := by simp

theorem in_spec_is (n lo hi : Int) (w : World) (b : Bool) (h : inB n lo hi = b) :
    Calls Try.prog 67 #[.int .i64 n, .int .i64 lo, .int .i64 hi] w fun e w' => e = .returned (.bool b) ∧ w' = w := by
  subst h; exact in_spec n lo hi w
theorem in_impl (n lo hi : Int) (w : World) :
    Calls Try.prog 77 #[.int .i64 n, .int .i64 lo, .int .i64 hi] w fun e w' => e = .returned (.bool (inB n lo hi)) ∧ w' = w := by
  by_cases h1 : lo ≤ n
  · by_cases h2 : n ≤ hi
    all_goals
      go_enter Try.func77, Try.ntmps77
      go_wp2
      go_ret
      exact ⟨ret_bool2 (by unfold inB; simp; omega), rfl⟩
  · go_enter Try.func77, Try.ntmps77
    go_wp2
    go_ret
    exact ⟨ret_bool2 (by unfold inB; simp; omega), rfl⟩
theorem in_impl_is (n lo hi : Int) (w : World) (b : Bool) (h : inB n lo hi = b) :
    Calls Try.prog 77 #[.int .i64 n, .int .i64 lo, .int .i64 hi] w fun e w' => e = .returned (.bool b) ∧ w' = w := by
  subst h; exact in_impl n lo hi w
theorem inB_yes {n lo hi : Int} (h : lo ≤ n) (h2 : n ≤ hi) : inB n lo hi = true := by unfold inB; simp [h, h2]
theorem inB_no {n lo hi : Int} (h : n < lo ∨ hi < n) : inB n lo hi = false := by unfold inB; simp; omega

set_option maxHeartbeats 1600000 in
theorem spec_sok (x y d : Int) (w : World) (hx : -9223372036854775808 ≤ x) (hx2 : x ≤ 9223372036854775807) (hy : -9223372036854775808 ≤ y) (hy2 : y ≤ 9223372036854775807) (hd : -9223372036854775808 ≤ d) (hd2 : d ≤ 9223372036854775807) :
    Calls Try.prog 125 #[.agg #[.int .i64 x, .int .i64 y, .int .i64 d]] w fun e w' => e = .returned (.bool (okS x y d)) ∧ Below w.heap.size w w' := by
  have hb := below_box w (.cells #[.int .i64 x, .int .i64 y, .int .i64 d] 139)
  by_cases h1 : 1 ≤ d ∧ d ≤ 5000000000
  · obtain ⟨h1, h2⟩ := h1
    have HA := Lib.hid (inB_yes h1 h2)
    by_cases h3 : -(1000 * d) ≤ x ∧ x ≤ 1000 * d
    · obtain ⟨h3, h4⟩ := h3
      have HB := Lib.hid (inB_yes h3 h4)
      by_cases h5 : -(1000 * d) ≤ y ∧ y ≤ 1000 * d
      · obtain ⟨h5, h6⟩ := h5
        have HC := Lib.hid (inB_yes h5 h6)
        rw [okS_yes h1 h2 h3 h4 h5 h6]
        have HX := Lib.hid (fun W => spec_gcd x y W hx hx2 hy hy2)
        rw [gcdR_of x y (by omega) (by omega)] at HX
        have hg := gcd_le_max x y (1000 * d) h3 h4 h5 h6
        have HY := Lib.hid (fun W => spec_gcd (Int.gcd x y) d W (by omega) (by omega) hd hd2)
        rw [gcdR_of (Int.gcd x y) d (by omega) (by omega)] at HY
        have HG := Lib.hid (show (gS x y d : Int) = (Int.gcd (Int.gcd x y) d : Int) from rfl)
        rw [HG.out]
        clear HG
        generalize ((Int.gcd ((Int.gcd x y : Nat) : Int) d : Nat) : Int) = K at *
        generalize ((Int.gcd x y : Nat) : Int) = G at *
        go_enter Try.func125, Try.ntmps125
        go_wp2_with fail
        refine (in_spec_is _ _ _ _ true HA.out).mono ?_
        rintro e w1 ⟨rfl, rfl⟩
        go_wp2_with fail
        go_quiet ((first
          | (go_at_call 67; first | (with_reducible exact Calls.quiet_of_same (in_spec_is _ _ _ _ true HB.out)) | (with_reducible exact Calls.quiet_of_same (in_spec_is _ _ _ _ true HC.out)))
          | (go_at_call 68; first | (with_reducible exact Calls.quiet_of (HX.out _)) | (with_reducible exact Calls.quiet_of (HY.out _)))))
        go_wp2_with fail
        go_ret
        exact ⟨rfl, below_drew hb _⟩
      · rw [okS_no (x := x) (y := y) (d := d) (by omega)]
        have HC := Lib.hid (inB_no (n := y) (lo := -(1000 * d)) (hi := 1000 * d) (by omega))
        clear h5
        go_enter Try.func125, Try.ntmps125
        go_wp2_with fail
        refine (in_spec_is _ _ _ _ true HA.out).mono ?_
        rintro e w1 ⟨rfl, rfl⟩
        go_wp2_with fail
        go_quiet ((go_at_call 67; first | (with_reducible exact Calls.quiet_of_same (in_spec_is _ _ _ _ true HB.out)) | (with_reducible exact Calls.quiet_of_same (in_spec_is _ _ _ _ false HC.out))))
        go_wp2_with fail
        go_ret
        exact ⟨rfl, below_drew hb _⟩
    · rw [okS_no (x := x) (y := y) (d := d) (by omega)]
      have HB := Lib.hid (inB_no (n := x) (lo := -(1000 * d)) (hi := 1000 * d) (by omega))
      clear h3
      go_enter Try.func125, Try.ntmps125
      go_wp2_with fail
      refine (in_spec_is _ _ _ _ true HA.out).mono ?_
      rintro e w1 ⟨rfl, rfl⟩
      go_wp2_with fail
      go_quiet ((go_at_call 67; with_reducible exact Calls.quiet_of_same (in_spec_is _ _ _ _ false HB.out)))
      go_wp2_with fail
      go_ret
      exact ⟨rfl, below_drew hb _⟩
  · rw [okS_no (x := x) (y := y) (d := d) (by omega)]
    have HA := Lib.hid (inB_no (n := d) (lo := 1) (hi := 5000000000) (by omega))
    clear h1
    go_enter Try.func125, Try.ntmps125
    go_wp2_with fail
    refine (in_spec_is _ _ _ _ false HA.out).mono ?_
    rintro e w1 ⟨rfl, rfl⟩
    go_wp2_with fail
    go_ret
    exact ⟨rfl, hb⟩

/-- valid and whole -/
def wholeS (x y d : Int) : Bool := okS x y d && (d == 1)
/-- the same spot -/
def sameS (a b c x y d : Int) : Bool := (a == x) && (b == y) && (c == d)
theorem below_bx2 {w w' : World} (h : Below w.heap.size w w') (o : Obj) : Below w.heap.size w (w'.alloc o) := h.trans ((below_box w' o).mono h.size)
theorem below_drw {w w' : World} (h : Below w.heap.size w w') : Below w.heap.size w w'.drew := below_drew h 1
theorem sixc {V X : World} {g h : Nat} {a b c x y d : Value} (hb : Below V.heap.size V X) (p : V.cell? ⟨g, 0, none⟩ = some a ∧ V.cell? ⟨g, 1, none⟩ = some b ∧ V.cell? ⟨g, 2, none⟩ = some c) (q : V.cell? ⟨h, 0, none⟩ = some x ∧ V.cell? ⟨h, 1, none⟩ = some y ∧ V.cell? ⟨h, 2, none⟩ = some d) :
    X.cell? ⟨g, 0, none⟩ = some a ∧ X.cell? ⟨g, 1, none⟩ = some b ∧ X.cell? ⟨g, 2, none⟩ = some c ∧ X.cell? ⟨h, 0, none⟩ = some x ∧ X.cell? ⟨h, 1, none⟩ = some y ∧ X.cell? ⟨h, 2, none⟩ = some d :=
  ⟨(three hb p).1, (three hb p).2.1, (three hb p).2.2, three hb q⟩
theorem sixb (w : World) (a b c x y d : Value) (T U : TypeId) : (((w.alloc (.cells #[a, b, c] T)).alloc (.cells #[x, y, d] U)).cell? ⟨w.heap.size, 0, none⟩ = some a ∧ ((w.alloc (.cells #[a, b, c] T)).alloc (.cells #[x, y, d] U)).cell? ⟨w.heap.size, 1, none⟩ = some b ∧ ((w.alloc (.cells #[a, b, c] T)).alloc (.cells #[x, y, d] U)).cell? ⟨w.heap.size, 2, none⟩ = some c) ∧
    (((w.alloc (.cells #[a, b, c] T)).alloc (.cells #[x, y, d] U)).cell? ⟨w.heap.size + 1, 0, none⟩ = some x ∧ ((w.alloc (.cells #[a, b, c] T)).alloc (.cells #[x, y, d] U)).cell? ⟨w.heap.size + 1, 1, none⟩ = some y ∧ ((w.alloc (.cells #[a, b, c] T)).alloc (.cells #[x, y, d] U)).cell? ⟨w.heap.size + 1, 2, none⟩ = some d) :=
  ⟨three (below_box _ _) (box3 w a b c T), by simp⟩

/-- a struct of three fields that lies at a block and may be written -/
def Has3 (W : World) (g : Nat) (a b c : Value) : Prop := W.cell? ⟨g, 0, none⟩ = some a ∧ W.cell? ⟨g, 1, none⟩ = some b ∧ W.cell? ⟨g, 2, none⟩ = some c ∧ W.frozen? ⟨g, 0, none⟩ = false ∧ W.frozen? ⟨g, 1, none⟩ = false ∧ W.frozen? ⟨g, 2, none⟩ = false
theorem has3_new (w : World) (a b c : Value) (T : TypeId) : Has3 (w.alloc (.cells #[a, b, c] T)) w.heap.size a b c :=
  ⟨(box3 w a b c T).1, (box3 w a b c T).2.1, (box3 w a b c T).2.2, frozen_of_row _ _ 0 _ _ (heap_alloc_new w _), frozen_of_row _ _ 1 _ _ (heap_alloc_new w _), frozen_of_row _ _ 2 _ _ (heap_alloc_new w _)⟩
theorem has3_to {V X : World} {g : Nat} {a b c : Value} (hb : Below V.heap.size V X) (p : Has3 V g a b c) : Has3 X g a b c :=
  ⟨by rw [hb.cell (block_lt_of_cell p.1)]; exact p.1, by rw [hb.cell (block_lt_of_cell p.2.1)]; exact p.2.1, by rw [hb.cell (block_lt_of_cell p.2.2.1)]; exact p.2.2.1,
   by rw [hb.frozen (block_lt_of_cell p.1)]; exact p.2.2.2.1, by rw [hb.frozen (block_lt_of_cell p.2.1)]; exact p.2.2.2.2.1, by rw [hb.frozen (block_lt_of_cell p.2.2.1)]; exact p.2.2.2.2.2⟩
theorem has3_lt {V : World} {g : Nat} {a b c : Value} (p : Has3 V g a b c) : g < V.heap.size := block_lt_of_cell p.1
theorem below_set3 {w w' : World} {g : Nat} (a b c : Value) (h : Below w.heap.size w w') (hg : w.heap.size ≤ g) : Below w.heap.size w (((w'.setCell ⟨g, 0, none⟩ a).setCell ⟨g, 1, none⟩ b).setCell ⟨g, 2, none⟩ c) :=
  ((h.setCell hg _).setCell hg _).setCell hg _
/-- the number, or 0 -/
def kp (b : Bool) (n : Int) : Int := if b = true then n else 0
theorem kp_t (n : Int) : kp true n = n := rfl
theorem kp_f (n : Int) : kp false n = 0 := rfl

/-- what SpotOf answers -/
def ansS (x y d : Int) : Value := .tuple #[.agg #[.int .i64 (kp (hasS x y d) (x.tdiv (gS x y d))), .int .i64 (kp (hasS x y d) (y.tdiv (gS x y d))), .int .i64 (kp (hasS x y d) (d.tdiv (gS x y d)))], .bool (hasS x y d)]
def zeroS : Value := .tuple #[.agg #[.int .i64 0, .int .i64 0, .int .i64 0], .bool false]
def spotS (X Y D : Int) : Value := .tuple #[.agg #[.int .i64 X, .int .i64 Y, .int .i64 D], .bool true]
theorem ansS_no {x y d : Int} (h : hasS x y d = false) : ansS x y d = zeroS := by unfold ansS; rw [h]; rfl
theorem ansS_yes {x y d : Int} (h : hasS x y d = true) : ansS x y d = spotS (x.tdiv (gS x y d)) (y.tdiv (gS x y d)) (d.tdiv (gS x y d)) := by unfold ansS; rw [h]; rfl
theorem gcd_nz (x d : Int) (hd : 1 ≤ d) : ((Int.gcd x d : Int) == 0) = false := by
  have : 0 < Int.gcd x d := Nat.gcd_pos_of_pos_right _ (by omega)
  simp; omega

theorem boxes3 {w w1 : World} {a b c x y d : Value} {T U : TypeId} {k : Nat} (hb : Below (((w.alloc (.cells #[a, b, c] T)).drewN k).alloc (.cells #[x, y, d] U)).heap.size (((w.alloc (.cells #[a, b, c] T)).drewN k).alloc (.cells #[x, y, d] U)) w1) :
    Has3 w1 w.heap.size a b c ∧ Has3 w1 (w.heap.size + 1) x y d ∧ Below w.heap.size w w1 := by
  have b1 := below_drew (below_box w (.cells #[a, b, c] T)) k
  have b2 := below_bx2 b1 (.cells #[x, y, d] U)
  have d1 : Below (w.alloc (.cells #[a, b, c] T)).heap.size (w.alloc (.cells #[a, b, c] T)) ((w.alloc (.cells #[a, b, c] T)).drewN k) := below_drew (Below.refl _ _) k
  have h1 := has3_new ((w.alloc (.cells #[a, b, c] T)).drewN k) x y d U
  rw [show ((w.alloc (.cells #[a, b, c] T)).drewN k).heap.size = w.heap.size + 1 by simp] at h1
  exact ⟨has3_to (below_to (below_bx2 d1 _) hb) (has3_new w a b c T), has3_to hb h1, below_to b2 hb⟩

set_option maxHeartbeats 3200000 in
theorem spec_sof (x y d : Int) (w : World) (hx : -9223372036854775807 ≤ x) (hx2 : x ≤ 9223372036854775807) (hy : -9223372036854775807 ≤ y) (hy2 : y ≤ 9223372036854775807) (hd : -9223372036854775808 ≤ d) (hd2 : d ≤ 9223372036854775807) :
    Calls Try.prog 123 #[.int .i64 x, .int .i64 y, .int .i64 d] w fun e w' => e = .returned (ansS x y d) ∧ Below w.heap.size w w' := by
  have hb := below_box w (.cells #[.int .i64 0, .int .i64 0, .int .i64 0] 139)
  have H0 := has3_new w (.int .i64 0) (.int .i64 0) (.int .i64 0) 139
  by_cases h1 : 1 ≤ d
  · have HX := Lib.hid (fun W => spec_gcd x y W (by omega) hx2 (by omega) hy2)
    rw [gcdR_of x y (by omega) (by omega)] at HX
    have hg := gcd_le_max x y 9223372036854775807 hx hx2 hy hy2
    have HY := Lib.hid (fun W => spec_gcd (Int.gcd x y) d W (by omega) (by omega) hd hd2)
    rw [gcdR_of (Int.gcd x y) d (by omega) (by omega)] at HY
    have HU := Lib.hid (fun W => spec_gcd x d W (by omega) hx2 hd hd2)
    rw [gcdR_of x d (by omega) (by omega)] at HU
    have HV := Lib.hid (fun W => spec_gcd y d W (by omega) hy2 hd hd2)
    rw [gcdR_of y d (by omega) (by omega)] at HV
    have hu := gcd_nz x d h1
    have hv := gcd_nz y d h1
    have hg0 : (1 : Int) ≤ (gS x y d : Int) := by have := gS_pos x y d h1; omega
    have hg1 := gS_le x y d h1
    have hX := tdiv_le x (gS x y d) 9223372036854775807 hx hx2
    have hY := tdiv_le y (gS x y d) 9223372036854775807 hy hy2
    have hD := tdiv_le d (gS x y d) 9223372036854775807 (by omega) hd2
    have hDe : d / (gS x y d : Int) = d.tdiv (gS x y d) := (Int.tdiv_eq_ediv_of_nonneg (by omega)).symm
    have HS := Lib.hid (hasS_of (x := x) (y := y) h1)
    have HZ := Lib.hid (fun h => ansS_no (x := x) (y := y) (d := d) h)
    have HT := Lib.hid (fun h => ansS_yes (x := x) (y := y) (d := d) h)
    have HG := Lib.hid (show (Int.gcd (Int.gcd x y) d : Int) = (gS x y d : Int) from rfl)
    rw [HG.out] at HY
    clear HG
    generalize ansS x y d = A at *
    generalize hasS x y d = B at *
    generalize ((gS x y d : Nat) : Int) = g at *
    generalize ((Int.gcd x y : Nat) : Int) = G at *
    generalize ((Int.gcd x d : Nat) : Int) = U at *
    generalize ((Int.gcd y d : Nat) : Int) = V at *
    generalize ex : x.tdiv g = X at *
    generalize ey : y.tdiv g = Y at *
    generalize ed : d.tdiv g = D at *
    have HO := Lib.hid (fun W => spec_sok X Y D W (by omega) (by omega) (by omega) (by omega) (by omega) (by omega))
    clear ed
    have v0 : IntKind.i64.wrap X = X := IntWalk.i64_in _ (by omega)
    have v1 : IntKind.i64.wrap Y = Y := IntWalk.i64_in _ (by omega)
    have v2 : IntKind.i64.wrap D = D := IntWalk.i64_in _ (by omega)
    have g0 : (g == 0) = false := by simp; omega
    have C := fun b : Bool => (show (x != 0) = b ∨ (x != 0) = !b by cases (x != 0) <;> cases b <;> simp)
    have hx0 : ((x != 0) = true ∧ (x == 0) = false) ∨ ((x != 0) = false ∧ (x == 0) = true) := by
      by_cases h : x = 0 <;> simp [h]
    have hy0 : ((y != 0) = true ∧ (y == 0) = false) ∨ ((y != 0) = false ∧ (y == 0) = true) := by
      by_cases h : y = 0 <;> simp [h]
    clear C
    rcases hx0 with ⟨x0, x1⟩ | ⟨x0, x1⟩ <;> rcases hy0 with ⟨y0, y1⟩ | ⟨y0, y1⟩
    all_goals
      go_enter Try.func123, Try.ntmps123
      go_wp2_with fail
      refine (HX.out _).mono ?_
      rintro e w1 ⟨rfl, k1, rfl⟩
      go_wp2_with fail
      refine (HY.out _).mono ?_
      rintro e w1 ⟨rfl, k2, rfl⟩
      go_wp2_with (go_at_call 68; first | (with_reducible refine (HU.out _).mono ?_; rintro e w1 ⟨rfl, k3, rfl⟩) | (with_reducible refine (HV.out _).mono ?_; rintro e w1 ⟨rfl, k4, rfl⟩))
      go_region
      try rw [hDe]
      clear v0 v1 v2 ex ey hDe x0 x1 y0 y1 hu hv g0 hg hg0 hg1 HX HY HU HV
      go_wp2_with fail
      refine (HO.out _).mono ?_
      cases hk : okS X Y D with
      | false =>
        rw [hk] at HS
        have HA := Lib.hid (HZ.out HS.out)
        clear hk HS HZ HT HO
        rintro e w2 ⟨rfl, hb2⟩
        obtain ⟨⟨p0, p1, p2, f0, f1, f2⟩, _, hbw⟩ := boxes3 hb2
        clear hb2
        go_wp2_with fail
        refine bodyPost_ret (v := .tuple #[.agg #[.int .i64 0, .int .i64 0, .int .i64 0], .bool false]) (by simp [results, Try.results123, go_sem, p0, p1, p2]) rfl ⟨by rw [HA.out]; rfl, ?_⟩
        exact below_set3 _ _ _ hbw (Nat.le_refl _)
      | true =>
        rw [hk] at HS
        have HA := Lib.hid (HT.out HS.out)
        clear hk HS HZ HT HO
        rintro e w2 ⟨rfl, hb2⟩
        obtain ⟨⟨p0, p1, p2, f0, f1, f2⟩, ⟨q0, q1, q2, _, _, _⟩, hbw⟩ := boxes3 hb2
        clear hb2
        go_wp2_with fail
        refine bodyPost_ret (v := .tuple #[.agg #[.int .i64 X, .int .i64 Y, .int .i64 D], .bool true]) (by simp [results, Try.results123, go_sem, p0, p1, p2]) rfl ⟨by rw [HA.out]; rfl, ?_⟩
        exact below_set3 _ _ _ hbw (Nat.le_refl _)
  · rw [ansS_no (hasS_no h1)]
    unfold zeroS
    go_enter Try.func123, Try.ntmps123
    go_wp2_with fail
    refine bodyPost_ret (v := .tuple #[.agg #[.int .i64 0, .int .i64 0, .int .i64 0], .bool false]) (by simp [results, Try.results123, go_sem]) rfl ⟨rfl, ?_⟩
    exact hb

theorem ansS_if {x y d X Y D : Int} {g : Int} (hg : g = (gS x y d : Int)) (h1 : 1 ≤ d) (hX : x.tdiv g = X) (hY : y.tdiv g = Y) (hD : d.tdiv g = D) :
    ansS x y d = .tuple #[.agg #[.int .i64 (kp (okS X Y D) X), .int .i64 (kp (okS X Y D) Y), .int .i64 (kp (okS X Y D) D)], .bool (okS X Y D)] := by
  subst hg; subst hX; subst hY; subst hD
  unfold ansS; rw [hasS_of h1]

theorem ansS_ex (x y d : Int) : ∃ X Y D : Int, ∃ B : Bool, ansS x y d = .tuple #[.agg #[.int .i64 X, .int .i64 Y, .int .i64 D], .bool B] := ⟨_, _, _, _, rfl⟩
/-- what ShiftSpot answers -/
def shiftS (x y d a b : Int) : Value := if okS x y d = true ∧ -2000 ≤ a ∧ a ≤ 2000 ∧ -2000 ≤ b ∧ b ≤ 2000 then ansS (x + a * d) (y + b * d) d else zeroS
theorem mul_in (a d A D : Int) (ha : -A ≤ a) (ha2 : a ≤ A) (hd : -D ≤ d) (hd2 : d ≤ D) : -(A * D) ≤ a * d ∧ a * d ≤ A * D := by
  have h : (a * d).natAbs ≤ (A * D).natAbs := by
    rw [Int.natAbs_mul, Int.natAbs_mul]
    exact Nat.mul_le_mul (by omega) (by omega)
  have h2 : 0 ≤ A * D := Int.mul_nonneg (by omega) (by omega)
  omega
theorem shift_in {x d a : Int} (h1 : 1 ≤ d) (h2 : d ≤ 5000000000) (h3 : -(1000 * d) ≤ x) (h4 : x ≤ 1000 * d) (ha : -2000 ≤ a) (ha2 : a ≤ 2000) : -10000000000000 ≤ a * d ∧ a * d ≤ 10000000000000 ∧ -15000000000000 ≤ x + a * d ∧ x + a * d ≤ 15000000000000 := by
  have := mul_in a d 2000 5000000000 ha ha2 (by omega) h2
  omega
/-- moved, a valid spot is in lowest terms -/
theorem moved {x y d a b : Int} (h : okS x y d = true) : ansS (x + a * d) (y + b * d) d = .tuple #[.agg #[.int .i64 (kp (okS (x + a * d) (y + b * d) d) (x + a * d)), .int .i64 (kp (okS (x + a * d) (y + b * d) d) (y + b * d)), .int .i64 (kp (okS (x + a * d) (y + b * d) d) d)], .bool (okS (x + a * d) (y + b * d) d)] := by
  obtain ⟨h1, _, _, _, _, _, h7⟩ := (okS_iff _ _ _).1 h
  have e := gS_move x y d a b h7
  exact ansS_if (g := 1) (by rw [e]; rfl) h1 (Int.tdiv_one _) (Int.tdiv_one _) (Int.tdiv_one _)
theorem sboxes {w w1 : World} {a b c x y d : Value} {T U : TypeId} (hb : Below ((w.alloc (.cells #[a, b, c] T)).alloc (.cells #[x, y, d] U)).heap.size ((w.alloc (.cells #[a, b, c] T)).alloc (.cells #[x, y, d] U)) w1) :
    Has3 w1 w.heap.size a b c ∧ Has3 w1 (w.heap.size + 1) x y d ∧ Below w.heap.size w w1 := boxes3 (k := 0) hb

theorem shiftS_ex (x y d a b : Int) : ∃ X Y D : Int, ∃ B : Bool, shiftS x y d a b = .tuple #[.agg #[.int .i64 X, .int .i64 Y, .int .i64 D], .bool B] := by
  unfold shiftS
  split
  · exact ansS_ex _ _ _
  · exact ⟨0, 0, 0, false, rfl⟩
/-- what HalfWay answers -/
def halfS (a b c x y d : Int) : Value := if okS a b c = true ∧ okS x y d = true ∧ c ≤ 1000000 ∧ d ≤ 1000000 then ansS (a * d + x * c) (b * d + y * c) (2 * c * d) else zeroS
theorem halfS_ex (a b c x y d : Int) : ∃ X Y D : Int, ∃ B : Bool, halfS a b c x y d = .tuple #[.agg #[.int .i64 X, .int .i64 Y, .int .i64 D], .bool B] := by
  unfold halfS
  split
  · exact ansS_ex _ _ _
  · exact ⟨0, 0, 0, false, rfl⟩
theorem sboxes3 {w w1 : World} {a b c x y d p q r : Value} {T U V : TypeId} (hb : Below (((w.alloc (.cells #[a, b, c] T)).alloc (.cells #[x, y, d] U)).alloc (.cells #[p, q, r] V)).heap.size (((w.alloc (.cells #[a, b, c] T)).alloc (.cells #[x, y, d] U)).alloc (.cells #[p, q, r] V)) w1) :
    Has3 w1 w.heap.size a b c ∧ Has3 w1 (w.heap.size + 1) x y d ∧ Has3 w1 (w.heap.size + 1 + 1) p q r ∧ Below w.heap.size w w1 := by
  obtain ⟨h1, h2, h3⟩ := sboxes hb
  have e : (w.alloc (.cells #[a, b, c] T)).heap.size = w.heap.size + 1 := by simp
  rw [e] at h1 h2
  refine ⟨has3_to (below_to (below_bx2 (below_box _ _) _) hb) (has3_new w a b c T), h1, h2, ?_⟩
  exact below_to (below_box w _) h3

/-- a spot that lies in a new block -/
def Lies3 (W : World) (x y d : Int) (v : Value) (wx : World) : Prop := ∃ g, v = .pointer (some ⟨g, 0, none⟩) ∧ W.heap.size ≤ g ∧ wx.heap[g]? = some (.cells #[.int .i64 x, .int .i64 y, .int .i64 d] 139 (0, 0)) ∧ Below W.heap.size W wx
theorem heap_set3 {w : World} {g : Nat} {x y z : Value} {T : TypeId} (a b c : Value) (h0 : w.heap[g]? = some (.cells #[x, y, z] T (0, 0))) : (((w.setCell ⟨g, 0, none⟩ a).setCell ⟨g, 1, none⟩ b).setCell ⟨g, 2, none⟩ c).heap[g]? = some (.cells #[a, b, c] T (0, 0)) := by
  have a0 := heap_setCell_same w g 0 _ T a h0
  have a1 := heap_setCell_same _ g 1 _ T b a0
  exact heap_setCell_same _ g 2 _ T c a1
theorem heap_bl {w w' : World} {g : Nat} {o : Obj} (hb : Below w.heap.size w w') (h : w.heap[g]? = some o) : w'.heap[g]? = some o := by
  rw [hb.block g (lt_of_block h)]; exact h
theorem at_new3 {U W : World} {Z : Obj} {g : Nat} (hb : Below (U.alloc Z).heap.size (U.alloc Z) W) (hg : g = U.heap.size) : W.heap[g]? = some Z := by
  subst hg; exact heap_bl hb (heap_alloc_new U Z)
theorem bcl3 {W w1 : World} (hb : Below W.heap.size W w1) : (∀ b o, b < W.heap.size → w1.cell? ⟨b, o, none⟩ = W.cell? ⟨b, o, none⟩) ∧ (∀ b o, b < W.heap.size → w1.frozen? ⟨b, o, none⟩ = W.frozen? ⟨b, o, none⟩) :=
  ⟨fun b o h => hb.cell (p := ⟨b, o, none⟩) h, fun b o h => hb.frozen (p := ⟨b, o, none⟩) h⟩

end Go.Proofs.Ytibkmhmeoelpdaa
