/- Plain facts on half planes: what is valid. The contracts of both HalfOk functions over the translation, and the walk of their law. The contracts of both HalfOf functions over the translation, away from the least int. The contracts of both SideOf, HoldsAt and OtherSide functions over the translation. The walks of SideOf's and HoldsAt's laws. The contracts of both OtherSide functions over the translation, and the walk of their law. -/
import Derived.Test.YtibkmhmeoelpdaaSpo
namespace Go.Proofs.Ytibkmhmeoelpdaa
open Go.RowKit

/-- the half plane a x + b y <= c is valid -/
def okH (a b c : Int) : Bool := decide (-50000 ≤ a) && decide (a ≤ 50000) && decide (-50000 ≤ b) && decide (b ≤ 50000) && decide (a ≠ 0 ∨ b ≠ 0) && decide (-100000000 ≤ c) && decide (c ≤ 100000000) && decide (gS a b c = 1)
theorem okH_iff (a b c : Int) : okH a b c = true ↔ -50000 ≤ a ∧ a ≤ 50000 ∧ -50000 ≤ b ∧ b ≤ 50000 ∧ (a ≠ 0 ∨ b ≠ 0) ∧ -100000000 ≤ c ∧ c ≤ 100000000 ∧ gS a b c = 1 := by
  unfold okH; simp only [Bool.and_eq_true, decide_eq_true_eq, and_assoc]
theorem okH_no {a b c : Int} (h : a < -50000 ∨ 50000 < a ∨ b < -50000 ∨ 50000 < b ∨ (a = 0 ∧ b = 0) ∨ c < -100000000 ∨ 100000000 < c) : okH a b c = false := by
  cases hx : okH a b c with
  | false => rfl
  | true => obtain ⟨h1, h2, h3, h4, h5, h6, h7, _⟩ := (okH_iff _ _ _).1 hx; omega
theorem okH_yes {a b c : Int} (h1 : -50000 ≤ a) (h2 : a ≤ 50000) (h3 : -50000 ≤ b) (h4 : b ≤ 50000) (h5 : a ≠ 0 ∨ b ≠ 0) (h6 : -100000000 ≤ c) (h7 : c ≤ 100000000) : okH a b c = ((gS a b c : Int) == 1) := by
  unfold okH
  rw [decide_eq_true h1, decide_eq_true h2, decide_eq_true h3, decide_eq_true h4, decide_eq_true h5, decide_eq_true h6, decide_eq_true h7]
  simp
  rw [Bool.eq_iff_iff]; simp; omega

set_option maxHeartbeats 3200000 in
theorem spec_hok (a b c : Int) (w : World) (ha : -9223372036854775808 ≤ a) (ha2 : a ≤ 9223372036854775807) (hb : -9223372036854775808 ≤ b) (hb2 : b ≤ 9223372036854775807) (hc : -9223372036854775808 ≤ c) (hc2 : c ≤ 9223372036854775807) :
    Calls Try.prog 52 #[.agg #[.int .i64 a, .int .i64 b, .int .i64 c]] w fun e w' => e = .returned (.bool (okH a b c)) ∧ Below w.heap.size w w' := by
  have hw := below_box w (.cells #[.int .i64 a, .int .i64 b, .int .i64 c] 60)
  by_cases h1 : -50000 ≤ a ∧ a ≤ 50000
  · obtain ⟨h1, h2⟩ := h1
    have HA := Lib.hid (inB_yes h1 h2)
    by_cases h3 : -50000 ≤ b ∧ b ≤ 50000
    · obtain ⟨h3, h4⟩ := h3
      have HB := Lib.hid (inB_yes h3 h4)
      by_cases h0 : a ≠ 0 ∨ b ≠ 0
      · have hz : (a != 0) = true ∨ ((a != 0) = false ∧ (b != 0) = true) := by
          by_cases k : a = 0
          · exact .inr ⟨by simp [k], by simp; omega⟩
          · exact .inl (by simpa using k)
        by_cases h5 : -100000000 ≤ c ∧ c ≤ 100000000
        · obtain ⟨h5, h6⟩ := h5
          have HC := Lib.hid (inB_yes h5 h6)
          rw [okH_yes h1 h2 h3 h4 h0 h5 h6]
          have HX := Lib.hid (fun W => spec_gcd a b W ha ha2 hb hb2)
          rw [gcdR_of a b (by omega) (by omega)] at HX
          have hg := gcd_le_max a b 50000 h1 h2 h3 h4
          have HY := Lib.hid (fun W => spec_gcd (Int.gcd a b) c W (by omega) (by omega) hc hc2)
          rw [gcdR_of (Int.gcd a b) c (by omega) (by omega)] at HY
          have HG := Lib.hid (show (gS a b c : Int) = (Int.gcd (Int.gcd a b) c : Int) from rfl)
          rw [HG.out]
          clear HG h0
          generalize ((Int.gcd ((Int.gcd a b : Nat) : Int) c : Nat) : Int) = K at *
          generalize ((Int.gcd a b : Nat) : Int) = G at *
          rcases hz with hz | ⟨hz, hz2⟩
          all_goals
            go_enter Try.func52, Try.ntmps52
            go_wp2_with fail
            go_quiet ((first
              | (go_at_call 67; first | (with_reducible exact Calls.quiet_of_same (in_spec_is _ _ _ _ true HA.out)) | (with_reducible exact Calls.quiet_of_same (in_spec_is _ _ _ _ true HB.out)) | (with_reducible exact Calls.quiet_of_same (in_spec_is _ _ _ _ true HC.out)))
              | (go_at_call 68; first | (with_reducible exact Calls.quiet_of (HX.out _)) | (with_reducible exact Calls.quiet_of (HY.out _)))
              | fail))
            go_wp2_with fail
            go_ret
            exact ⟨rfl, below_drew hw _⟩
        · rw [okH_no (a := a) (b := b) (c := c) (by omega)]
          have HC := Lib.hid (inB_no (n := c) (lo := -100000000) (hi := 100000000) (by omega))
          clear h5 h0
          rcases hz with hz | ⟨hz, hz2⟩
          all_goals
            go_enter Try.func52, Try.ntmps52
            go_wp2_with fail
            go_quiet ((first
              | (go_at_call 67; first | (with_reducible exact Calls.quiet_of_same (in_spec_is _ _ _ _ true HA.out)) | (with_reducible exact Calls.quiet_of_same (in_spec_is _ _ _ _ true HB.out)) | (with_reducible exact Calls.quiet_of_same (in_spec_is _ _ _ _ false HC.out)))
              | fail))
            go_wp2_with fail
            go_ret
            exact ⟨rfl, below_drew hw _⟩
      · rw [okH_no (a := a) (b := b) (c := c) (by omega)]
        have hz : (a != 0) = false := by simp; omega
        have hz2 : (b != 0) = false := by simp; omega
        clear h0
        go_enter Try.func52, Try.ntmps52
        go_wp2_with fail
        go_quiet ((first
          | (go_at_call 67; first | (with_reducible exact Calls.quiet_of_same (in_spec_is _ _ _ _ true HA.out)) | (with_reducible exact Calls.quiet_of_same (in_spec_is _ _ _ _ true HB.out)))
          | fail))
        go_wp2_with fail
        go_ret
        exact ⟨rfl, below_drew hw _⟩
    · rw [okH_no (a := a) (b := b) (c := c) (by omega)]
      have HB := Lib.hid (inB_no (n := b) (lo := -50000) (hi := 50000) (by omega))
      clear h3
      go_enter Try.func52, Try.ntmps52
      go_wp2_with fail
      go_quiet ((first
        | (go_at_call 67; first | (with_reducible exact Calls.quiet_of_same (in_spec_is _ _ _ _ true HA.out)) | (with_reducible exact Calls.quiet_of_same (in_spec_is _ _ _ _ false HB.out)))
        | fail))
      go_wp2_with fail
      go_ret
      exact ⟨rfl, below_drew hw _⟩
  · rw [okH_no (a := a) (b := b) (c := c) (by omega)]
    have HA := Lib.hid (inB_no (n := a) (lo := -50000) (hi := 50000) (by omega))
    clear h1
    go_enter Try.func52, Try.ntmps52
    go_wp2_with fail
    go_quiet ((first
      | (go_at_call 67; first | (with_reducible exact Calls.quiet_of_same (in_spec_is _ _ _ _ false HA.out)))
      | fail))
    go_wp2_with fail
    go_ret
    exact ⟨rfl, below_drew hw _⟩

set_option maxHeartbeats 3200000 in
theorem impl_hok (a b c : Int) (w : World) (ha : -9223372036854775808 ≤ a) (ha2 : a ≤ 9223372036854775807) (hb : -9223372036854775808 ≤ b) (hb2 : b ≤ 9223372036854775807) (hc : -9223372036854775808 ≤ c) (hc2 : c ≤ 9223372036854775807) :
    Calls Try.prog 55 #[.agg #[.int .i64 a, .int .i64 b, .int .i64 c]] w fun e w' => e = .returned (.bool (okH a b c)) ∧ Below w.heap.size w w' := by
  have hw := below_box w (.cells #[.int .i64 a, .int .i64 b, .int .i64 c] 60)
  by_cases h1 : -50000 ≤ a ∧ a ≤ 50000
  · obtain ⟨h1, h2⟩ := h1
    have HA := Lib.hid (inB_yes h1 h2)
    by_cases h3 : -50000 ≤ b ∧ b ≤ 50000
    · obtain ⟨h3, h4⟩ := h3
      have HB := Lib.hid (inB_yes h3 h4)
      by_cases h5 : -100000000 ≤ c ∧ c ≤ 100000000
      · obtain ⟨h5, h6⟩ := h5
        have HC := Lib.hid (inB_yes h5 h6)
        by_cases h0 : a ≠ 0 ∨ b ≠ 0
        · have hz : (a != 0) = true ∨ ((a != 0) = false ∧ (b != 0) = true) := by
            by_cases k : a = 0
            · exact .inr ⟨by simp [k], by simp; omega⟩
            · exact .inl (by simpa using k)
          rw [okH_yes h1 h2 h3 h4 h0 h5 h6]
          have HX := Lib.hid (fun W => impl_gcd a b W ha ha2 hb hb2)
          rw [gcdR_of a b (by omega) (by omega)] at HX
          have hg := gcd_le_max a b 50000 h1 h2 h3 h4
          have HY := Lib.hid (fun W => impl_gcd (Int.gcd a b) c W (by omega) (by omega) hc hc2)
          rw [gcdR_of (Int.gcd a b) c (by omega) (by omega)] at HY
          have HG := Lib.hid (show (gS a b c : Int) = (Int.gcd (Int.gcd a b) c : Int) from rfl)
          rw [HG.out]
          clear HG h0
          generalize ((Int.gcd ((Int.gcd a b : Nat) : Int) c : Nat) : Int) = K at *
          generalize ((Int.gcd a b : Nat) : Int) = G at *
          rcases hz with hz | ⟨hz, hz2⟩
          all_goals
            go_enter Try.func55, Try.ntmps55
            go_wp2_with fail
            refine (in_impl_is _ _ _ _ true HA.out).mono ?_
            rintro e w1 ⟨rfl, rfl⟩
            go_wp2_with fail
            refine (in_impl_is _ _ _ _ true HB.out).mono ?_
            rintro e w1 ⟨rfl, rfl⟩
            go_wp2_with fail
            refine (in_impl_is _ _ _ _ true HC.out).mono ?_
            rintro e w1 ⟨rfl, rfl⟩
            go_wp2_with fail
            go_quiet ((go_at_call 70; first | (with_reducible exact Calls.quiet_of (HX.out _)) | (with_reducible exact Calls.quiet_of (HY.out _))))
            go_wp2_with fail
            go_ret
            exact ⟨rfl, below_drew hw _⟩
        · rw [okH_no (a := a) (b := b) (c := c) (by omega)]
          have hz : (a != 0) = false := by simp; omega
          have hz2 : (b != 0) = false := by simp; omega
          clear h0
          go_enter Try.func55, Try.ntmps55
          go_wp2_with fail
          refine (in_impl_is _ _ _ _ true HA.out).mono ?_
          rintro e w1 ⟨rfl, rfl⟩
          go_wp2_with fail
          refine (in_impl_is _ _ _ _ true HB.out).mono ?_
          rintro e w1 ⟨rfl, rfl⟩
          go_wp2_with fail
          refine (in_impl_is _ _ _ _ true HC.out).mono ?_
          rintro e w1 ⟨rfl, rfl⟩
          go_wp2_with fail
          go_quiet (fail)
          go_wp2_with fail
          go_ret
          exact ⟨rfl, below_drew hw _⟩
      · rw [okH_no (a := a) (b := b) (c := c) (by omega)]
        have HC := Lib.hid (inB_no (n := c) (lo := -100000000) (hi := 100000000) (by omega))
        clear h5
        go_enter Try.func55, Try.ntmps55
        go_wp2_with fail
        refine (in_impl_is _ _ _ _ true HA.out).mono ?_
        rintro e w1 ⟨rfl, rfl⟩
        go_wp2_with fail
        refine (in_impl_is _ _ _ _ true HB.out).mono ?_
        rintro e w1 ⟨rfl, rfl⟩
        go_wp2_with fail
        refine (in_impl_is _ _ _ _ false HC.out).mono ?_
        rintro e w1 ⟨rfl, rfl⟩
        go_wp2_with fail
        go_ret
        exact ⟨rfl, hw⟩
    · rw [okH_no (a := a) (b := b) (c := c) (by omega)]
      have HB := Lib.hid (inB_no (n := b) (lo := -50000) (hi := 50000) (by omega))
      clear h3
      go_enter Try.func55, Try.ntmps55
      go_wp2_with fail
      refine (in_impl_is _ _ _ _ true HA.out).mono ?_
      rintro e w1 ⟨rfl, rfl⟩
      go_wp2_with fail
      refine (in_impl_is _ _ _ _ false HB.out).mono ?_
      rintro e w1 ⟨rfl, rfl⟩
      go_wp2_with fail
      go_ret
      exact ⟨rfl, hw⟩
  · rw [okH_no (a := a) (b := b) (c := c) (by omega)]
    have HA := Lib.hid (inB_no (n := a) (lo := -50000) (hi := 50000) (by omega))
    clear h1
    go_enter Try.func55, Try.ntmps55
    go_wp2_with fail
    refine (in_impl_is _ _ _ _ false HA.out).mono ?_
    rintro e w1 ⟨rfl, rfl⟩
    go_wp2_with fail
    go_ret
    exact ⟨rfl, hw⟩

set_option maxHeartbeats 800000 in
theorem to_half (x y d : Int) (w : World) :
    Calls Try.prog 27 #[.agg #[.int .i64 x, .int .i64 y, .int .i64 d]] w fun e w' => e = .returned (.agg #[.int .i64 x, .int .i64 y, .int .i64 d]) ∧ Below w.heap.size w w' := by
  go_enter Try.func27, Try.ntmps27
  go_wp2
  exact bodyPost_ret (v := .agg #[.int .i64 x, .int .i64 y, .int .i64 d]) (by simp [results, Try.results27, go_sem]) rfl ⟨rfl, ((below_box _ _).alloc (by simp) _).alloc (by simp; omega) _⟩

/-- there is a valid half plane a x + b y <= c -/
def hasH (a b c : Int) : Bool := decide (a ≠ 0 ∨ b ≠ 0) && okH (a.tdiv (gS a b c)) (b.tdiv (gS a b c)) (c.tdiv (gS a b c))
theorem hasH_of {a b c : Int} (h : a ≠ 0 ∨ b ≠ 0) : hasH a b c = okH (a.tdiv (gS a b c)) (b.tdiv (gS a b c)) (c.tdiv (gS a b c)) := by
  unfold hasH; rw [decide_eq_true h, Bool.true_and]
theorem hasH_no {a b c : Int} (h : a = 0 ∧ b = 0) : hasH a b c = false := by
  unfold hasH; rw [decide_eq_false (by omega), Bool.false_and]
/-- what HalfOf answers -/
def ansH (a b c : Int) : Value := .tuple #[.agg #[.int .i64 (kp (hasH a b c) (a.tdiv (gS a b c))), .int .i64 (kp (hasH a b c) (b.tdiv (gS a b c))), .int .i64 (kp (hasH a b c) (c.tdiv (gS a b c)))], .bool (hasH a b c)]
theorem ansH_ex (a b c : Int) : ∃ X Y D : Int, ∃ B : Bool, ansH a b c = .tuple #[.agg #[.int .i64 X, .int .i64 Y, .int .i64 D], .bool B] := ⟨_, _, _, _, rfl⟩
theorem ansH_no {a b c : Int} (h : hasH a b c = false) : ansH a b c = zeroS := by unfold ansH; rw [h]; rfl
theorem ansH_yes {a b c : Int} (h : hasH a b c = true) : ansH a b c = spotS (a.tdiv (gS a b c)) (b.tdiv (gS a b c)) (c.tdiv (gS a b c)) := by unfold ansH; rw [h]; rfl
theorem gS_posH {a b c : Int} (h : a ≠ 0 ∨ b ≠ 0) : 1 ≤ gS a b c := by
  unfold gS
  have : 0 < Int.gcd a b := by
    rcases h with h | h
    · exact Nat.gcd_pos_of_pos_left _ (by omega)
    · exact Nat.gcd_pos_of_pos_right _ (by omega)
  exact Nat.gcd_pos_of_pos_left _ (by omega)
theorem gS_leH {a b c : Int} (h : a ≠ 0 ∨ b ≠ 0) (ha : -9223372036854775807 ≤ a) (ha2 : a ≤ 9223372036854775807) (hb : -9223372036854775807 ≤ b) (hb2 : b ≤ 9223372036854775807) : (gS a b c : Int) ≤ 9223372036854775807 := by
  have h1 := gcd_le_max a b 9223372036854775807 ha ha2 hb hb2
  have h2 : 0 < Int.gcd a b := by
    rcases h with h | h
    · exact Nat.gcd_pos_of_pos_left _ (by omega)
    · exact Nat.gcd_pos_of_pos_right _ (by omega)
  have h3 := Nat.gcd_le_left (m := (Int.gcd a b : Int).natAbs) c.natAbs (by omega)
  have : gS a b c = Nat.gcd (Int.gcd a b : Int).natAbs c.natAbs := rfl
  omega
theorem gcd_1 (a : Int) (ha : -9223372036854775807 ≤ a) : gcdR a 1 = 1 := by
  rw [gcdR_of a 1 (by omega) (by omega)]
  simp

theorem tdiv_neg_abs (n : Int) (g : Nat) (h : n < 0) : n.tdiv g = -((n.natAbs / g : Nat) : Int) := by
  obtain ⟨m, rfl⟩ : ∃ m : Nat, n = -(m : Int) := ⟨n.natAbs, by omega⟩
  rw [Int.neg_tdiv]
  congr 1
  rw [Int.natAbs_neg]
  rfl
theorem tdiv_pos_abs (n : Int) (g : Nat) (h : ¬ n < 0) : n.tdiv g = ((n.natAbs / g : Nat) : Int) := by
  obtain ⟨m, rfl⟩ : ∃ m : Nat, n = (m : Int) := ⟨n.natAbs, by omega⟩
  rfl
/-- on which side of the border a spot lies -/
def sideV (a b c x y d : Int) : Int := if a * x + b * y < c * d then -1 else if c * d < a * x + b * y then 1 else 0
theorem sideV_lt {a b c x y d : Int} (h : a * x + b * y < c * d) : sideV a b c x y d = -1 := if_pos h
theorem sideV_gt {a b c x y d : Int} (h : c * d < a * x + b * y) : sideV a b c x y d = 1 := by unfold sideV; rw [if_neg (by omega), if_pos h]
theorem sideV_eq {a b c x y d : Int} (h : a * x + b * y = c * d) : sideV a b c x y d = 0 := by unfold sideV; rw [if_neg (by omega), if_neg (by omega)]
/-- what SideOf answers -/
def sideH (a b c x y d : Int) : Int := if okH a b c = true ∧ okS x y d = true then sideV a b c x y d else 0
/-- the products of valid ones are small -/
theorem side_in {a b c x y d : Int} (h : okH a b c = true) (k : okS x y d = true) : (-250000000000000000 ≤ a * x ∧ a * x ≤ 250000000000000000) ∧ (-250000000000000000 ≤ b * y ∧ b * y ≤ 250000000000000000) ∧ (-500000000000000000 ≤ c * d ∧ c * d ≤ 500000000000000000) := by
  obtain ⟨a1, a2, b1, b2, _, c1, c2, _⟩ := (okH_iff _ _ _).1 h
  obtain ⟨d1, d2, x1, x2, y1, y2, _⟩ := (okS_iff _ _ _).1 k
  have m1 := mul_in a x 50000 5000000000000 a1 a2 (by omega) (by omega)
  have m2 := mul_in b y 50000 5000000000000 b1 b2 (by omega) (by omega)
  have m3 := mul_in c d 100000000 5000000000 c1 c2 (by omega) (by omega)
  exact ⟨by omega, by omega, by omega⟩

set_option maxHeartbeats 1600000 in
theorem impl_side0 (a b c x y d : Int) (w : World) (h : okH a b c = true) (k : okS x y d = true) :
    Calls Try.prog 116 #[.agg #[.int .i64 a, .int .i64 b, .int .i64 c], .agg #[.int .i64 x, .int .i64 y, .int .i64 d]] w fun e w' => e = .returned (.int .i64 (sideV a b c x y d)) ∧ Below w.heap.size w w' := by
  have hw := below_bx2 (below_box w (.cells #[.int .i64 a, .int .i64 b, .int .i64 c] 60)) (.cells #[.int .i64 x, .int .i64 y, .int .i64 d] 139)
  obtain ⟨⟨p0, p1⟩, ⟨q0, q1⟩, r0, r1⟩ := side_in h k
  clear h k
  have hk : a * x + b * y < c * d ∨ a * x + b * y = c * d ∨ c * d < a * x + b * y := by omega
  rcases hk with hk | hk | hk
  all_goals
    first | rw [sideV_lt hk] | rw [sideV_eq hk] | rw [sideV_gt hk]
    generalize e1 : a * x = P at *
    generalize e2 : b * y = Q at *
    generalize e3 : c * d = R at *
    go_enter Try.func116, Try.ntmps116
    go_wp2_with fail
    go_quiet (fail)
    go_wp2_with fail
    go_ret
    exact ⟨rfl, below_drew hw _⟩

/-- what HoldsAt answers -/
def holdH (a b c x y d : Int) : Bool := okH a b c && okS x y d && decide (sideV a b c x y d ≤ 0)
theorem sideV_cases (a b c x y d : Int) : sideV a b c x y d = -1 ∨ sideV a b c x y d = 0 ∨ sideV a b c x y d = 1 := by
  unfold sideV
  split
  · exact .inl rfl
  · split
    · exact .inr (.inr rfl)
    · exact .inr (.inl rfl)

/-- what OtherSide answers -/
def othH (a b c : Int) : Value := .agg #[.int .i64 (kp (okH a b c) (-a)), .int .i64 (kp (okH a b c) (-b)), .int .i64 (kp (okH a b c) (-c))]
theorem othH_ex (a b c : Int) : ∃ A B C : Int, othH a b c = .agg #[.int .i64 A, .int .i64 B, .int .i64 C] := ⟨_, _, _, rfl⟩
theorem othH_no {a b c : Int} (h : okH a b c = false) : othH a b c = .agg #[.int .i64 0, .int .i64 0, .int .i64 0] := by unfold othH; rw [h]; rfl
theorem othH_yes {a b c : Int} (h : okH a b c = true) : othH a b c = .agg #[.int .i64 (-a), .int .i64 (-b), .int .i64 (-c)] := by unfold othH; rw [h]; rfl

set_option maxHeartbeats 800000 in
theorem eq_half (x y d : Int) (w : World) :
    Calls Try.prog 93 #[.agg #[.int .i64 x, .int .i64 y, .int .i64 d], .agg #[.int .i64 x, .int .i64 y, .int .i64 d]] w fun e w' => e = .returned (.bool true) ∧ Below w.heap.size w w' := by
  go_enter Try.func93, Try.ntmps93
  go_wp2
  go_ret
  exact ⟨rfl, below_bx2 (below_box _ _) _⟩

end Go.Proofs.Ytibkmhmeoelpdaa
