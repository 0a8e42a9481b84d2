/- The contracts of both SideOf, HoldsAt and OtherSide functions over the translation. The walks of SideOf's and HoldsAt's laws. The contracts of both OtherSide functions over the translation, and the walk of their law. -/
import Derived.Test.YtobmaajfdpcfmaaHpa
import Derived.Test.YtobmaajfdpcfmaaSpo
namespace Go.Proofs.Ytobmaajfdpcfmaa
open Go.RowKit

/-- on which side of the border a spot lies -/
def sideV (a b c x y d : Int) : Int := if a * x + b * y < c * d then -1 else if c * d < a * x + b * y then 1 else 0
theorem sideV_lt {a b c x y d : Int} (h : a * x + b * y < c * d) : sideV a b c x y d = -1 := if_pos h
theorem sideV_gt {a b c x y d : Int} (h : c * d < a * x + b * y) : sideV a b c x y d = 1 := by unfold sideV; rw [if_neg (by omega), if_pos h]
theorem sideV_eq {a b c x y d : Int} (h : a * x + b * y = c * d) : sideV a b c x y d = 0 := by unfold sideV; rw [if_neg (by omega), if_neg (by omega)]
/-- what SideOf answers -/
def sideH (a b c x y d : Int) : Int := if okH a b c = true ∧ okS x y d = true then sideV a b c x y d else 0
/-- the products of valid ones are small -/
theorem side_in {a b c x y d : Int} (h : okH a b c = true) (k : okS x y d = true) : (-250000000000000000 ≤ a * x ∧ a * x ≤ 250000000000000000) ∧ (-250000000000000000 ≤ b * y ∧ b * y ≤ 250000000000000000) ∧ (-500000000000000000 ≤ c * d ∧ c * d ≤ 500000000000000000) := by
  obtain ⟨a1, a2, b1, b2, _, c1, c2, _⟩ := (okH_iff _ _ _).1 h
  obtain ⟨d1, d2, x1, x2, y1, y2, _⟩ := (okS_iff _ _ _).1 k
  have m1 := mul_in a x 50000 5000000000000 a1 a2 (by omega) (by omega)
  have m2 := mul_in b y 50000 5000000000000 b1 b2 (by omega) (by omega)
  have m3 := mul_in c d 100000000 5000000000 c1 c2 (by omega) (by omega)
  exact ⟨by omega, by omega, by omega⟩

set_option maxHeartbeats 1600000 in
theorem spec_side0 (a b c x y d : Int) (w : World) (h : okH a b c = true) (k : okS x y d = true) :
    Calls Try.prog 146 #[.agg #[.int .i64 a, .int .i64 b, .int .i64 c], .agg #[.int .i64 x, .int .i64 y, .int .i64 d]] w fun e w' => e = .returned (.int .i64 (sideV a b c x y d)) ∧ Below w.heap.size w w' := by
  have hw := below_bx2 (below_box w (.cells #[.int .i64 a, .int .i64 b, .int .i64 c] 34)) (.cells #[.int .i64 x, .int .i64 y, .int .i64 d] 31)
  obtain ⟨⟨p0, p1⟩, ⟨q0, q1⟩, r0, r1⟩ := side_in h k
  clear h k
  have hk : a * x + b * y < c * d ∨ a * x + b * y = c * d ∨ c * d < a * x + b * y := by omega
  rcases hk with hk | hk | hk
  all_goals
    first | rw [sideV_lt hk] | rw [sideV_eq hk] | rw [sideV_gt hk]
    generalize e1 : a * x = P at *
    generalize e2 : b * y = Q at *
    generalize e3 : c * d = R at *
    go_enter Try.func146, Try.ntmps146
    go_wp2_with fail
    go_ret
    exact ⟨rfl, hw⟩

set_option maxHeartbeats 1600000 in
theorem impl_side0 (a b c x y d : Int) (w : World) (h : okH a b c = true) (k : okS x y d = true) :
    Calls Try.prog 71 #[.agg #[.int .i64 a, .int .i64 b, .int .i64 c], .agg #[.int .i64 x, .int .i64 y, .int .i64 d]] w fun e w' => e = .returned (.int .i64 (sideV a b c x y d)) ∧ Below w.heap.size w w' := by
  have hw := below_bx2 (below_box w (.cells #[.int .i64 a, .int .i64 b, .int .i64 c] 34)) (.cells #[.int .i64 x, .int .i64 y, .int .i64 d] 31)
  obtain ⟨⟨p0, p1⟩, ⟨q0, q1⟩, r0, r1⟩ := side_in h k
  clear h k
  have hk : a * x + b * y < c * d ∨ a * x + b * y = c * d ∨ c * d < a * x + b * y := by omega
  rcases hk with hk | hk | hk
  all_goals
    first | rw [sideV_lt hk] | rw [sideV_eq hk] | rw [sideV_gt hk]
    generalize e1 : a * x = P at *
    generalize e2 : b * y = Q at *
    generalize e3 : c * d = R at *
    go_enter Try.func71, Try.ntmps71
    go_wp2_with fail
    go_quiet (fail)
    go_wp2_with fail
    go_ret
    exact ⟨rfl, below_drew hw _⟩

set_option maxHeartbeats 1600000 in
theorem impl_side (a b c x y d : Int) (w : World) (ha : -9223372036854775808 ≤ a) (ha2 : a ≤ 9223372036854775807) (hb : -9223372036854775808 ≤ b) (hb2 : b ≤ 9223372036854775807) (hc : -9223372036854775808 ≤ c) (hc2 : c ≤ 9223372036854775807) (hx : -9223372036854775808 ≤ x) (hx2 : x ≤ 9223372036854775807) (hy : -9223372036854775808 ≤ y) (hy2 : y ≤ 9223372036854775807) (hd : -9223372036854775808 ≤ d) (hd2 : d ≤ 9223372036854775807) :
    Calls Try.prog 21 #[.agg #[.int .i64 a, .int .i64 b, .int .i64 c], .agg #[.int .i64 x, .int .i64 y, .int .i64 d]] w fun e w' => e = .returned (.int .i64 (sideH a b c x y d)) ∧ Below w.heap.size w w' := by
  have HO := Lib.hid (fun W => impl_hok a b c W ha ha2 hb hb2 hc hc2)
  have HP := Lib.hid (fun W => impl_sok x y d W hx hx2 hy hy2 hd hd2)
  cases hk : okH a b c with
  | false =>
    rw [show sideH a b c x y d = 0 from if_neg (by rw [hk]; simp)]
    rw [hk] at HO
    clear hk
    go_enter Try.func21, Try.ntmps21
    go_wp2_with fail
    refine (HO.out _).mono ?_
    rintro e w1 ⟨rfl, bl1⟩
    obtain ⟨_, _, hbw⟩ := sboxes bl1
    clear bl1
    go_wp2_with fail
    go_ret
    exact ⟨rfl, hbw⟩
  | true =>
    cases hl : okS x y d with
    | false =>
      rw [show sideH a b c x y d = 0 from if_neg (by rw [hl]; simp)]
      rw [hk] at HO
      rw [hl] at HP
      clear hk hl
      go_enter Try.func21, Try.ntmps21
      go_wp2_with fail
      refine (HO.out _).mono ?_
      rintro e w1 ⟨rfl, bl1⟩
      obtain ⟨_, ⟨p0, p1, p2, _, _, _⟩, _⟩ := sboxes bl1
      go_wp2_with fail
      refine (HP.out _).mono ?_
      rintro e w2 ⟨rfl, bl2⟩
      obtain ⟨_, _, hbw⟩ := sboxes (below_to bl1 bl2)
      clear bl1 bl2 p0 p1 p2
      go_wp2_with fail
      go_ret
      exact ⟨rfl, hbw⟩
    | true =>
      rw [show sideH a b c x y d = sideV a b c x y d from if_pos ⟨hk, hl⟩]
      have HS := Lib.hid (fun W => impl_side0 a b c x y d W hk hl)
      rw [hk] at HO
      rw [hl] at HP
      clear hk hl
      generalize sideV a b c x y d = r at *
      go_enter Try.func21, Try.ntmps21
      go_wp2_with fail
      refine (HO.out _).mono ?_
      rintro e w1 ⟨rfl, bl1⟩
      obtain ⟨_, ⟨p0, p1, p2, _, _, _⟩, _⟩ := sboxes bl1
      go_wp2_with fail
      refine (HP.out _).mono ?_
      rintro e w2 ⟨rfl, bl2⟩
      clear p0 p1 p2
      obtain ⟨⟨q0, q1, q2, _, _, _⟩, ⟨p0, p1, p2, _, _, _⟩, hbw⟩ := sboxes (below_to bl1 bl2)
      clear bl1 bl2
      go_wp2_with fail
      refine (HS.out _).mono ?_
      rintro e w3 ⟨rfl, bl3⟩
      go_wp2_with fail
      go_ret
      exact ⟨rfl, below_to hbw bl3⟩

/-- what HoldsAt answers -/
def holdH (a b c x y d : Int) : Bool := okH a b c && okS x y d && decide (sideV a b c x y d ≤ 0)
theorem sideV_cases (a b c x y d : Int) : sideV a b c x y d = -1 ∨ sideV a b c x y d = 0 ∨ sideV a b c x y d = 1 := by
  unfold sideV
  split
  · exact .inl rfl
  · split
    · exact .inr (.inr rfl)
    · exact .inr (.inl rfl)

set_option maxHeartbeats 1600000 in
theorem impl_hold (a b c x y d : Int) (w : World) (ha : -9223372036854775808 ≤ a) (ha2 : a ≤ 9223372036854775807) (hb : -9223372036854775808 ≤ b) (hb2 : b ≤ 9223372036854775807) (hc : -9223372036854775808 ≤ c) (hc2 : c ≤ 9223372036854775807) (hx : -9223372036854775808 ≤ x) (hx2 : x ≤ 9223372036854775807) (hy : -9223372036854775808 ≤ y) (hy2 : y ≤ 9223372036854775807) (hd : -9223372036854775808 ≤ d) (hd2 : d ≤ 9223372036854775807) :
    Calls Try.prog 20 #[.agg #[.int .i64 a, .int .i64 b, .int .i64 c], .agg #[.int .i64 x, .int .i64 y, .int .i64 d]] w fun e w' => e = .returned (.bool (holdH a b c x y d)) ∧ Below w.heap.size w w' := by
  have HO := Lib.hid (fun W => impl_hok a b c W ha ha2 hb hb2 hc hc2)
  have HP := Lib.hid (fun W => impl_sok x y d W hx hx2 hy hy2 hd hd2)
  unfold holdH
  cases hk : okH a b c with
  | false =>
    rw [hk] at HO
    rw [Bool.false_and, Bool.false_and]
    clear hk
    go_enter Try.func20, Try.ntmps20
    go_wp2_with fail
    refine (HO.out _).mono ?_
    rintro e w1 ⟨rfl, bl1⟩
    obtain ⟨_, _, hbw⟩ := sboxes bl1
    clear bl1
    go_wp2_with fail
    go_ret
    exact ⟨rfl, hbw⟩
  | true =>
    cases hl : okS x y d with
    | false =>
      rw [hk] at HO
      rw [hl] at HP
      rw [Bool.true_and, Bool.false_and]
      clear hk hl
      go_enter Try.func20, Try.ntmps20
      go_wp2_with fail
      refine (HO.out _).mono ?_
      rintro e w1 ⟨rfl, bl1⟩
      obtain ⟨_, ⟨p0, p1, p2, _, _, _⟩, _⟩ := sboxes bl1
      go_wp2_with fail
      refine (HP.out _).mono ?_
      rintro e w2 ⟨rfl, bl2⟩
      obtain ⟨_, _, hbw⟩ := sboxes (below_to bl1 bl2)
      clear bl1 bl2 p0 p1 p2
      go_wp2_with fail
      go_ret
      exact ⟨rfl, hbw⟩
    | true =>
      have HS := Lib.hid (fun W => impl_side0 a b c x y d W hk hl)
      rw [hk] at HO
      rw [hl] at HP
      rw [Bool.true_and, Bool.true_and]
      have hr := sideV_cases a b c x y d
      clear hk hl
      generalize sideV a b c x y d = r at *
      go_enter Try.func20, Try.ntmps20
      go_wp2_with fail
      refine (HO.out _).mono ?_
      rintro e w1 ⟨rfl, bl1⟩
      obtain ⟨_, ⟨p0, p1, p2, _, _, _⟩, _⟩ := sboxes bl1
      go_wp2_with fail
      refine (HP.out _).mono ?_
      rintro e w2 ⟨rfl, bl2⟩
      clear p0 p1 p2
      obtain ⟨⟨q0, q1, q2, _, _, _⟩, ⟨p0, p1, p2, _, _, _⟩, hbw⟩ := sboxes (below_to bl1 bl2)
      clear bl1 bl2
      go_wp2_with fail
      refine (HS.out _).mono ?_
      rintro e w3 ⟨rfl, bl3⟩
      clear HO HP HS
      rcases hr with rfl | rfl | rfl
      all_goals
        go_wp2_with fail
        go_ret
        exact ⟨rfl, below_to hbw bl3⟩

/-- what OtherSide answers -/
def othH (a b c : Int) : Value := .agg #[.int .i64 (kp (okH a b c) (-a)), .int .i64 (kp (okH a b c) (-b)), .int .i64 (kp (okH a b c) (-c))]
theorem othH_ex (a b c : Int) : ∃ A B C : Int, othH a b c = .agg #[.int .i64 A, .int .i64 B, .int .i64 C] := ⟨_, _, _, rfl⟩
theorem othH_no {a b c : Int} (h : okH a b c = false) : othH a b c = .agg #[.int .i64 0, .int .i64 0, .int .i64 0] := by unfold othH; rw [h]; rfl
theorem othH_yes {a b c : Int} (h : okH a b c = true) : othH a b c = .agg #[.int .i64 (-a), .int .i64 (-b), .int .i64 (-c)] := by unfold othH; rw [h]; rfl

set_option maxHeartbeats 800000 in
theorem eq_half (x y d : Int) (w : World) :
    Calls Try.prog 124 #[.agg #[.int .i64 x, .int .i64 y, .int .i64 d], .agg #[.int .i64 x, .int .i64 y, .int .i64 d]] w fun e w' => e = .returned (.bool true) ∧ Below w.heap.size w w' := by
  go_enter Try.func124, Try.ntmps124
  go_wp2
  go_ret
  exact ⟨rfl, below_bx2 (below_box _ _) _⟩

end Go.Proofs.Ytobmaajfdpcfmaa
