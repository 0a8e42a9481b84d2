/- The contracts of both SpotOk and IsWhole functions over the translation, and the walks of their laws. -/
import Derived.Test.YtkodoedkdgldnabCmp
import Derived.Test.YtkodoedkdgldnabSpt
namespace Go.Proofs.Ytkodoedkdgldnab
open Go.RowKit

theorem below_to {V W X : World} (h : Below V.heap.size V W) (k : Below W.heap.size W X) : Below V.heap.size V X := h.trans (k.mono h.size)
theorem box3 (w : World) (a b c : Value) (T : TypeId) : (w.alloc (.cells #[a, b, c] T)).cell? ⟨w.heap.size, 0, none⟩ = some a ∧ (w.alloc (.cells #[a, b, c] T)).cell? ⟨w.heap.size, 1, none⟩ = some b ∧ (w.alloc (.cells #[a, b, c] T)).cell? ⟨w.heap.size, 2, none⟩ = some c :=
  ⟨cell_of_row _ _ _ _ _ _ (heap_alloc_new w _), cell_of_row _ _ _ _ _ _ (heap_alloc_new w _), cell_of_row _ _ _ _ _ _ (heap_alloc_new w _)⟩
theorem three {V X : World} {g : Nat} {a b c : Value} (hb : Below V.heap.size V X) (p : V.cell? ⟨g, 0, none⟩ = some a ∧ V.cell? ⟨g, 1, none⟩ = some b ∧ V.cell? ⟨g, 2, none⟩ = some c) :
    X.cell? ⟨g, 0, none⟩ = some a ∧ X.cell? ⟨g, 1, none⟩ = some b ∧ X.cell? ⟨g, 2, none⟩ = some c :=
  ⟨by rw [hb.cell (block_lt_of_cell p.1)]; exact p.1, by rw [hb.cell (block_lt_of_cell p.2.1)]; exact p.2.1, by rw [hb.cell (block_lt_of_cell p.2.2)]; exact p.2.2⟩
theorem lt_box (w : World) (o : Obj) : w.heap.size < (w.alloc o).heap.size := by simp

theorem in_spec_is (n lo hi : Int) (w : World) (b : Bool) (h : inB n lo hi = b) :
    Calls Try.prog 20 #[.int .i64 n, .int .i64 lo, .int .i64 hi] w fun e w' => e = .returned (.bool b) ∧ w' = w := by
  subst h; exact in_spec n lo hi w
theorem in_impl (n lo hi : Int) (w : World) :
    Calls Try.prog 22 #[.int .i64 n, .int .i64 lo, .int .i64 hi] w fun e w' => e = .returned (.bool (inB n lo hi)) ∧ w' = w := by
  by_cases h1 : lo ≤ n
  · by_cases h2 : n ≤ hi
    all_goals
      go_enter Try.func22, Try.ntmps22
      go_wp2
      go_ret
      exact ⟨ret_bool2 (by unfold inB; simp; omega), rfl⟩
  · go_enter Try.func22, Try.ntmps22
    go_wp2
    go_ret
    exact ⟨ret_bool2 (by unfold inB; simp; omega), rfl⟩
theorem in_impl_is (n lo hi : Int) (w : World) (b : Bool) (h : inB n lo hi = b) :
    Calls Try.prog 22 #[.int .i64 n, .int .i64 lo, .int .i64 hi] w fun e w' => e = .returned (.bool b) ∧ w' = w := by
  subst h; exact in_impl n lo hi w
theorem inB_yes {n lo hi : Int} (h : lo ≤ n) (h2 : n ≤ hi) : inB n lo hi = true := by unfold inB; simp [h, h2]
theorem inB_no {n lo hi : Int} (h : n < lo ∨ hi < n) : inB n lo hi = false := by unfold inB; simp; omega

set_option maxHeartbeats 1600000 in
theorem spec_sok (x y d : Int) (w : World) (hx : -9223372036854775808 ≤ x) (hx2 : x ≤ 9223372036854775807) (hy : -9223372036854775808 ≤ y) (hy2 : y ≤ 9223372036854775807) (hd : -9223372036854775808 ≤ d) (hd2 : d ≤ 9223372036854775807) :
    Calls Try.prog 12 #[.agg #[.int .i64 x, .int .i64 y, .int .i64 d]] w fun e w' => e = .returned (.bool (okS x y d)) ∧ Below w.heap.size w w' := by
  have hb := below_box w (.cells #[.int .i64 x, .int .i64 y, .int .i64 d] 28)
  by_cases h1 : 1 ≤ d ∧ d ≤ 5000000000
  · obtain ⟨h1, h2⟩ := h1
    have HA := Lib.hid (inB_yes h1 h2)
    by_cases h3 : -(1000 * d) ≤ x ∧ x ≤ 1000 * d
    · obtain ⟨h3, h4⟩ := h3
      have HB := Lib.hid (inB_yes h3 h4)
      by_cases h5 : -(1000 * d) ≤ y ∧ y ≤ 1000 * d
      · obtain ⟨h5, h6⟩ := h5
        have HC := Lib.hid (inB_yes h5 h6)
        rw [okS_yes h1 h2 h3 h4 h5 h6]
        have HX := Lib.hid (fun W => spec_gcd x y W hx hx2 hy hy2)
        rw [gcdR_of x y (by omega) (by omega)] at HX
        have hg := gcd_le_max x y (1000 * d) h3 h4 h5 h6
        have HY := Lib.hid (fun W => spec_gcd (Int.gcd x y) d W (by omega) (by omega) hd hd2)
        rw [gcdR_of (Int.gcd x y) d (by omega) (by omega)] at HY
        have HG := Lib.hid (show (gS x y d : Int) = (Int.gcd (Int.gcd x y) d : Int) from rfl)
        rw [HG.out]
        clear HG
        generalize ((Int.gcd ((Int.gcd x y : Nat) : Int) d : Nat) : Int) = K at *
        generalize ((Int.gcd x y : Nat) : Int) = G at *
        go_enter Try.func12, Try.ntmps12
        go_wp2_with fail
        refine (in_spec_is _ _ _ _ true HA.out).mono ?_
        rintro e w1 ⟨rfl, rfl⟩
        go_wp2_with fail
        go_quiet ((first
          | (go_at_call 20; first | (with_reducible exact Calls.quiet_of_same (in_spec_is _ _ _ _ true HB.out)) | (with_reducible exact Calls.quiet_of_same (in_spec_is _ _ _ _ true HC.out)))
          | (go_at_call 13; first | (with_reducible exact Calls.quiet_of (HX.out _)) | (with_reducible exact Calls.quiet_of (HY.out _)))))
        go_wp2_with fail
        go_ret
        exact ⟨rfl, below_drew hb _⟩
      · rw [okS_no (x := x) (y := y) (d := d) (by omega)]
        have HC := Lib.hid (inB_no (n := y) (lo := -(1000 * d)) (hi := 1000 * d) (by omega))
        clear h5
        go_enter Try.func12, Try.ntmps12
        go_wp2_with fail
        refine (in_spec_is _ _ _ _ true HA.out).mono ?_
        rintro e w1 ⟨rfl, rfl⟩
        go_wp2_with fail
        go_quiet ((go_at_call 20; first | (with_reducible exact Calls.quiet_of_same (in_spec_is _ _ _ _ true HB.out)) | (with_reducible exact Calls.quiet_of_same (in_spec_is _ _ _ _ false HC.out))))
        go_wp2_with fail
        go_ret
        exact ⟨rfl, below_drew hb _⟩
    · rw [okS_no (x := x) (y := y) (d := d) (by omega)]
      have HB := Lib.hid (inB_no (n := x) (lo := -(1000 * d)) (hi := 1000 * d) (by omega))
      clear h3
      go_enter Try.func12, Try.ntmps12
      go_wp2_with fail
      refine (in_spec_is _ _ _ _ true HA.out).mono ?_
      rintro e w1 ⟨rfl, rfl⟩
      go_wp2_with fail
      go_quiet ((go_at_call 20; with_reducible exact Calls.quiet_of_same (in_spec_is _ _ _ _ false HB.out)))
      go_wp2_with fail
      go_ret
      exact ⟨rfl, below_drew hb _⟩
  · rw [okS_no (x := x) (y := y) (d := d) (by omega)]
    have HA := Lib.hid (inB_no (n := d) (lo := 1) (hi := 5000000000) (by omega))
    clear h1
    go_enter Try.func12, Try.ntmps12
    go_wp2_with fail
    refine (in_spec_is _ _ _ _ false HA.out).mono ?_
    rintro e w1 ⟨rfl, rfl⟩
    go_wp2_with fail
    go_ret
    exact ⟨rfl, hb⟩

set_option maxHeartbeats 1600000 in
theorem impl_sok (x y d : Int) (w : World) (hx : -9223372036854775808 ≤ x) (hx2 : x ≤ 9223372036854775807) (hy : -9223372036854775808 ≤ y) (hy2 : y ≤ 9223372036854775807) (hd : -9223372036854775808 ≤ d) (hd2 : d ≤ 9223372036854775807) :
    Calls Try.prog 15 #[.agg #[.int .i64 x, .int .i64 y, .int .i64 d]] w fun e w' => e = .returned (.bool (okS x y d)) ∧ Below w.heap.size w w' := by
  have hb := below_box w (.cells #[.int .i64 x, .int .i64 y, .int .i64 d] 28)
  by_cases h1 : 1 ≤ d ∧ d ≤ 5000000000
  · obtain ⟨h1, h2⟩ := h1
    have HA := Lib.hid (inB_yes h1 h2)
    by_cases h3 : -(1000 * d) ≤ x ∧ x ≤ 1000 * d
    · obtain ⟨h3, h4⟩ := h3
      have HB := Lib.hid (inB_yes h3 h4)
      by_cases h5 : -(1000 * d) ≤ y ∧ y ≤ 1000 * d
      · obtain ⟨h5, h6⟩ := h5
        have HC := Lib.hid (inB_yes h5 h6)
        rw [okS_yes h1 h2 h3 h4 h5 h6]
        have HX := Lib.hid (fun W => impl_gcd x y W hx hx2 hy hy2)
        rw [gcdR_of x y (by omega) (by omega)] at HX
        have hg := gcd_le_max x y (1000 * d) h3 h4 h5 h6
        have HY := Lib.hid (fun W => impl_gcd (Int.gcd x y) d W (by omega) (by omega) hd hd2)
        rw [gcdR_of (Int.gcd x y) d (by omega) (by omega)] at HY
        have HG := Lib.hid (show (gS x y d : Int) = (Int.gcd (Int.gcd x y) d : Int) from rfl)
        rw [HG.out]
        clear HG
        generalize ((Int.gcd ((Int.gcd x y : Nat) : Int) d : Nat) : Int) = K at *
        generalize ((Int.gcd x y : Nat) : Int) = G at *
        go_enter Try.func15, Try.ntmps15
        go_wp2_with fail
        refine (in_impl_is _ _ _ _ true HA.out).mono ?_
        rintro e w1 ⟨rfl, rfl⟩
        go_wp2_with fail
        go_quiet ((first
          | (go_at_call 22; first | (with_reducible exact Calls.quiet_of_same (in_impl_is _ _ _ _ true HB.out)) | (with_reducible exact Calls.quiet_of_same (in_impl_is _ _ _ _ true HC.out)))
          | (go_at_call 23; first | (with_reducible exact Calls.quiet_of (HX.out _)) | (with_reducible exact Calls.quiet_of (HY.out _)))))
        go_wp2_with fail
        go_ret
        exact ⟨rfl, below_drew hb _⟩
      · rw [okS_no (x := x) (y := y) (d := d) (by omega)]
        have HC := Lib.hid (inB_no (n := y) (lo := -(1000 * d)) (hi := 1000 * d) (by omega))
        clear h5
        go_enter Try.func15, Try.ntmps15
        go_wp2_with fail
        refine (in_impl_is _ _ _ _ true HA.out).mono ?_
        rintro e w1 ⟨rfl, rfl⟩
        go_wp2_with fail
        go_quiet ((go_at_call 22; first | (with_reducible exact Calls.quiet_of_same (in_impl_is _ _ _ _ true HB.out)) | (with_reducible exact Calls.quiet_of_same (in_impl_is _ _ _ _ false HC.out))))
        go_wp2_with fail
        go_ret
        exact ⟨rfl, below_drew hb _⟩
    · rw [okS_no (x := x) (y := y) (d := d) (by omega)]
      have HB := Lib.hid (inB_no (n := x) (lo := -(1000 * d)) (hi := 1000 * d) (by omega))
      clear h3
      go_enter Try.func15, Try.ntmps15
      go_wp2_with fail
      refine (in_impl_is _ _ _ _ true HA.out).mono ?_
      rintro e w1 ⟨rfl, rfl⟩
      go_wp2_with fail
      go_quiet ((go_at_call 22; with_reducible exact Calls.quiet_of_same (in_impl_is _ _ _ _ false HB.out)))
      go_wp2_with fail
      go_ret
      exact ⟨rfl, below_drew hb _⟩
  · rw [okS_no (x := x) (y := y) (d := d) (by omega)]
    have HA := Lib.hid (inB_no (n := d) (lo := 1) (hi := 5000000000) (by omega))
    clear h1
    go_enter Try.func15, Try.ntmps15
    go_wp2_with fail
    refine (in_impl_is _ _ _ _ false HA.out).mono ?_
    rintro e w1 ⟨rfl, rfl⟩
    go_wp2_with fail
    go_ret
    exact ⟨rfl, hb⟩

set_option maxHeartbeats 800000 in
theorem to_spot (x y d : Int) (w : World) :
    Calls Try.prog 5 #[.agg #[.int .i64 x, .int .i64 y, .int .i64 d]] w fun e w' => e = .returned (.agg #[.int .i64 x, .int .i64 y, .int .i64 d]) ∧ Below w.heap.size w w' := by
  go_enter Try.func5, Try.ntmps5
  go_wp2
  exact bodyPost_ret (v := .agg #[.int .i64 x, .int .i64 y, .int .i64 d]) (by simp [results, Try.results5, go_sem]) rfl ⟨rfl, ((below_box _ _).alloc (by simp) _).alloc (by simp; omega) _⟩

/-- valid and whole -/
def wholeS (x y d : Int) : Bool := okS x y d && (d == 1)
set_option maxHeartbeats 800000 in
theorem spec_whole (x y d : Int) (w : World) (hx : -9223372036854775808 ≤ x) (hx2 : x ≤ 9223372036854775807) (hy : -9223372036854775808 ≤ y) (hy2 : y ≤ 9223372036854775807) (hd : -9223372036854775808 ≤ d) (hd2 : d ≤ 9223372036854775807) :
    Calls Try.prog 8 #[.agg #[.int .i64 x, .int .i64 y, .int .i64 d]] w fun e w' => e = .returned (.bool (wholeS x y d)) ∧ Below w.heap.size w w' := by
  have hb := below_box w (.cells #[.int .i64 x, .int .i64 y, .int .i64 d] 28)
  have hc := box3 w (.int .i64 x) (.int .i64 y) (.int .i64 d) 28
  have HX := Lib.hid (fun W => spec_sok x y d W hx hx2 hy hy2 hd hd2)
  unfold wholeS
  cases hk : okS x y d with
  | false =>
    rw [hk] at HX
    clear hk
    rw [Bool.false_and]
    go_enter Try.func8, Try.ntmps8
    go_wp2_with fail
    refine (HX.out _).mono ?_
    rintro e w1 ⟨rfl, hb1⟩
    go_wp2_with fail
    go_ret
    exact ⟨rfl, below_to hb hb1⟩
  | true =>
    rw [hk] at HX
    clear hk
    rw [Bool.true_and]
    go_enter Try.func8, Try.ntmps8
    go_wp2_with fail
    refine (HX.out _).mono ?_
    rintro e w1 ⟨rfl, hb1⟩
    obtain ⟨c0, c1, c2⟩ := three hb1 hc
    go_wp2_with fail
    go_ret
    exact ⟨rfl, below_to hb hb1⟩

set_option maxHeartbeats 800000 in
theorem impl_whole (x y d : Int) (w : World) (hx : -9223372036854775808 ≤ x) (hx2 : x ≤ 9223372036854775807) (hy : -9223372036854775808 ≤ y) (hy2 : y ≤ 9223372036854775807) (hd : -9223372036854775808 ≤ d) (hd2 : d ≤ 9223372036854775807) :
    Calls Try.prog 10 #[.agg #[.int .i64 x, .int .i64 y, .int .i64 d]] w fun e w' => e = .returned (.bool (wholeS x y d)) ∧ Below w.heap.size w w' := by
  have hb := below_box w (.cells #[.int .i64 x, .int .i64 y, .int .i64 d] 28)
  have hc := box3 w (.int .i64 x) (.int .i64 y) (.int .i64 d) 28
  have HX := Lib.hid (fun W => impl_sok x y d W hx hx2 hy hy2 hd hd2)
  unfold wholeS
  cases hk : okS x y d with
  | false =>
    rw [hk] at HX
    clear hk
    rw [Bool.false_and]
    go_enter Try.func10, Try.ntmps10
    go_wp2_with fail
    refine (HX.out _).mono ?_
    rintro e w1 ⟨rfl, hb1⟩
    go_wp2_with fail
    go_ret
    exact ⟨rfl, below_to hb hb1⟩
  | true =>
    rw [hk] at HX
    clear hk
    rw [Bool.true_and]
    go_enter Try.func10, Try.ntmps10
    go_wp2_with fail
    refine (HX.out _).mono ?_
    rintro e w1 ⟨rfl, hb1⟩
    obtain ⟨c0, c1, c2⟩ := three hb1 hc
    go_wp2_with fail
    go_ret
    exact ⟨rfl, below_to hb hb1⟩

end Go.Proofs.Ytkodoedkdgldnab
