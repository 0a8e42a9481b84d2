/- What the law FnHalves rests on: the other side of a border, and the crossing of two borders lies on both. -/
import Derived.Test.YtkodoedkdgldnaaCrs
import Derived.Test.YtkodoedkdgldnaaAgf
namespace Go.Proofs.Ytkodoedkdgldnaa
open Go.RowKit

theorem ok_neg {a b c : Int} (h : okH a b c = true) : okH (-a) (-b) (-c) = true := by
  obtain ⟨a1, a2, b1, b2, h0, c1, c2, h1⟩ := (okH_iff _ _ _).1 h
  refine (okH_iff _ _ _).2 ⟨by omega, by omega, by omega, by omega, by omega, by omega, by omega, ?_⟩
  unfold gS at *
  rw [Int.neg_gcd, Int.gcd_neg, Int.gcd_neg]
  exact h1
theorem side_neg (a b c x y d : Int) : sideV (-a) (-b) (-c) x y d = -sideV a b c x y d := by
  unfold sideV
  rw [Int.neg_mul, Int.neg_mul, Int.neg_mul]
  generalize a * x = P
  generalize b * y = Q
  generalize c * d = R
  by_cases h1 : P + Q < R
  · rw [if_pos h1, if_neg (by omega), if_pos (by omega)]; rfl
  · by_cases h2 : R < P + Q
    · rw [if_neg h1, if_pos h2, if_pos (by omega)]
    · rw [if_neg h1, if_neg h2, if_neg (by omega), if_neg (by omega)]; rfl
theorem oth_oth {a b c : Int} (h : okH a b c = true) : othH a b c = .agg #[.int .i64 (-a), .int .i64 (-b), .int .i64 (-c)] ∧ othH (-a) (-b) (-c) = .agg #[.int .i64 a, .int .i64 b, .int .i64 c] := by
  refine ⟨othH_yes h, ?_⟩
  rw [othH_yes (ok_neg h), Int.neg_neg, Int.neg_neg, Int.neg_neg]
theorem scale_z {g v : Int} (hg : 1 ≤ g) (h : v * g = 0) : v = 0 := by
  rcases Int.mul_eq_zero.1 h with k | k
  · exact k
  · omega
theorem red_on {a b c X Y D X1 Y1 D1 g : Int} (hg : 1 ≤ g) (eX : X = X1 * g) (eY : Y = Y1 * g) (eD : D = D1 * g) (h : a * X + b * Y = c * D) : a * X1 + b * Y1 = c * D1 := by
  have : (a * X1 + b * Y1 - c * D1) * g = 0 := by
    rw [Int.sub_mul, Int.add_mul, Int.mul_assoc, Int.mul_assoc, Int.mul_assoc, ← eX, ← eY, ← eD, h]; omega
  have := scale_z hg this
  omega
/-- a spot on two borders, in lowest terms, is still on both -/
theorem cross_on {a b c x y d X Y D : Int} (hD : 1 ≤ D) (h : a * X + b * Y = c * D) (k : x * X + y * Y = d * D) :
    ∃ X1 Y1 D1 : Int, ∃ B : Bool, ansS X Y D = .tuple #[.agg #[.int .i64 X1, .int .i64 Y1, .int .i64 D1], .bool B] ∧ (B = true → okS X1 Y1 D1 = true ∧ a * X1 + b * Y1 = c * D1 ∧ x * X1 + y * Y1 = d * D1) := by
  cases hs : hasS X Y D with
  | false => exact ⟨0, 0, 0, false, ansS_no hs, fun h => by cases h⟩
  | true =>
    refine ⟨_, _, _, true, ansS_yes hs, fun _ => ⟨(hasS_pos hs).2, ?_, ?_⟩⟩
    all_goals
      have hg := gS_pos X Y D hD
      have eX : X = X.tdiv (gS X Y D) * (gS X Y D : Int) := (Int.tdiv_mul_cancel (gS_dvd_x X Y D)).symm
      have eY : Y = Y.tdiv (gS X Y D) * (gS X Y D : Int) := (Int.tdiv_mul_cancel (gS_dvd_y X Y D)).symm
      have eD : D = D.tdiv (gS X Y D) * (gS X Y D : Int) := (Int.tdiv_mul_cancel (gS_dvd_d X Y D)).symm
      first
        | exact red_on (by omega) eX eY eD h
        | exact red_on (by omega) eX eY eD k
theorem crs_on (a b c x y d : Int) : a * (c * y - b * d) + b * (a * d - c * x) = c * (a * y - b * x) ∧ x * (c * y - b * d) + y * (a * d - c * x) = d * (a * y - b * x) := by
  constructor
  · have e1 : a * (c * y) = c * (a * y) := Int.mul_left_comm a c y
    have e2 : b * (c * x) = c * (b * x) := Int.mul_left_comm b c x
    have e3 : a * (b * d) = b * (a * d) := Int.mul_left_comm a b d
    rw [Int.mul_sub, Int.mul_sub, Int.mul_sub, e1, e2, e3]; omega
  · have e1 : x * (b * d) = d * (b * x) := by rw [Int.mul_left_comm x b d, Int.mul_left_comm d b x, Int.mul_comm x d]
    have e2 : y * (a * d) = d * (a * y) := by rw [Int.mul_left_comm y a d, Int.mul_left_comm d a y, Int.mul_comm y d]
    have e3 : x * (c * y) = y * (c * x) := by rw [Int.mul_left_comm x c y, Int.mul_left_comm y c x, Int.mul_comm x y]
    rw [Int.mul_sub, Int.mul_sub, Int.mul_sub, e1, e2, e3]; omega
/-- the crossing of two borders does not depend on their order, and lies on both -/
theorem crs_facts {a b c x y d : Int} (h : okH a b c = true) (k : okH x y d = true) :
    ∃ X Y D : Int, ∃ B : Bool, crsH a b c x y d = .tuple #[.agg #[.int .i64 X, .int .i64 Y, .int .i64 D], .bool B] ∧ crsH x y d a b c = .tuple #[.agg #[.int .i64 X, .int .i64 Y, .int .i64 D], .bool B] ∧
      (B = true → okS X Y D = true ∧ sideV a b c X Y D = 0 ∧ sideV x y d X Y D = 0 ∧ ¬ a * y = b * x) := by
  rw [show crsH a b c x y d = _ from if_pos ⟨h, k⟩, show crsH x y d a b c = _ from if_pos ⟨k, h⟩]
  obtain ⟨o1, o2⟩ := crs_on a b c x y d
  have s1 : x * b - y * a = -(a * y - b * x) := by rw [Int.mul_comm x b, Int.mul_comm y a]; omega
  have s2 : d * b - y * c = -(c * y - b * d) := by rw [Int.mul_comm d b, Int.mul_comm y c]; omega
  have s3 : x * c - d * a = -(a * d - c * x) := by rw [Int.mul_comm x c, Int.mul_comm d a]; omega
  unfold crsV
  rw [s1, s2, s3]
  have nz : ¬ a * y - b * x = 0 → ¬ a * y = b * x := fun q r => q (by omega)
  generalize a * y - b * x = D at *
  generalize c * y - b * d = X at *
  generalize a * d - c * x = Y at *
  rcases Int.lt_trichotomy D 0 with q | q | q
  · rw [if_pos q, if_neg (by omega)]
    obtain ⟨X1, Y1, D1, B, e, f⟩ := cross_on (a := a) (b := b) (c := c) (x := x) (y := y) (d := d) (X := -X) (Y := -Y) (D := -D) (by omega) (by rw [Int.mul_neg, Int.mul_neg, Int.mul_neg]; omega) (by rw [Int.mul_neg, Int.mul_neg, Int.mul_neg]; omega)
    exact ⟨X1, Y1, D1, B, e, e, fun t => ⟨(f t).1, sideV_eq (f t).2.1, sideV_eq (f t).2.2, nz (by omega)⟩⟩
  · subst q
    rw [if_neg (by omega), if_neg (by omega), ansS_no (hasS_no (by omega)), ansS_no (hasS_no (by omega))]
    exact ⟨0, 0, 0, false, rfl, rfl, fun t => by cases t⟩
  · rw [if_neg (by omega), if_pos (by omega), Int.neg_neg, Int.neg_neg, Int.neg_neg]
    obtain ⟨X1, Y1, D1, B, e, f⟩ := cross_on (a := a) (b := b) (c := c) (x := x) (y := y) (d := d) (X := X) (Y := Y) (D := D) (by omega) o1 o2
    exact ⟨X1, Y1, D1, B, e, e, fun t => ⟨(f t).1, sideV_eq (f t).2.1, sideV_eq (f t).2.2, nz (by omega)⟩⟩
theorem oth_call {a b c : Int} {v : Value} (h : okH a b c = true) (e : othH a b c = v) (W : World) :
    Calls Try.prog 17 #[.agg #[.int .i64 a, .int .i64 b, .int .i64 c]] W fun e w' => e = .returned v ∧ Below W.heap.size W w' := by
  obtain ⟨⟨a1, a2⟩, ⟨b1, b2⟩, c1, c2⟩ := half_in h
  have := impl_oth a b c W a1 a2 b1 b2 c1 c2
  rw [e] at this
  exact this
theorem crs_call {a b c x y d : Int} {v : Value} (h : okH a b c = true) (k : okH x y d = true) (e : crsH a b c x y d = v) (W : World) :
    Calls Try.prog 18 #[.agg #[.int .i64 a, .int .i64 b, .int .i64 c], .agg #[.int .i64 x, .int .i64 y, .int .i64 d]] W fun e w' => e = .returned v ∧ Below W.heap.size W w' := by
  obtain ⟨⟨a1, a2⟩, ⟨b1, b2⟩, c1, c2⟩ := half_in h
  obtain ⟨⟨x1, x2⟩, ⟨y1, y2⟩, d1, d2⟩ := half_in k
  have := impl_crs a b c x y d W a1 a2 b1 b2 c1 c2 x1 x2 y1 y2 d1 d2
  rw [e] at this
  exact this
theorem spot_in {x y d : Int} (h : okS x y d = true) : (-9223372036854775808 ≤ x ∧ x ≤ 9223372036854775807) ∧ (-9223372036854775808 ≤ y ∧ y ≤ 9223372036854775807) ∧ (-9223372036854775808 ≤ d ∧ d ≤ 9223372036854775807) := by
  obtain ⟨d1, d2, x1, x2, y1, y2, _⟩ := (okS_iff _ _ _).1 h
  omega
theorem sidec {a b c x y d r : Int} (h : okH a b c = true) (k : okS x y d = true) (e : sideV a b c x y d = r) (W : World) :
    Calls Try.prog 20 #[.agg #[.int .i64 a, .int .i64 b, .int .i64 c], .agg #[.int .i64 x, .int .i64 y, .int .i64 d]] W fun e w' => e = .returned (.int .i64 r) ∧ Below W.heap.size W w' := by
  obtain ⟨⟨a1, a2⟩, ⟨b1, b2⟩, c1, c2⟩ := half_in h
  obtain ⟨⟨x1, x2⟩, ⟨y1, y2⟩, d1, d2⟩ := spot_in k
  have := impl_side a b c x y d W a1 a2 b1 b2 c1 c2 x1 x2 y1 y2 d1 d2
  rw [show sideH a b c x y d = sideV a b c x y d from if_pos ⟨h, k⟩, e] at this
  exact this
theorem holdc {a b c x y d : Int} {r : Bool} (h : okH a b c = true) (k : okS x y d = true) (e : decide (sideV a b c x y d ≤ 0) = r) (W : World) :
    Calls Try.prog 21 #[.agg #[.int .i64 a, .int .i64 b, .int .i64 c], .agg #[.int .i64 x, .int .i64 y, .int .i64 d]] W fun e w' => e = .returned (.bool r) ∧ Below W.heap.size W w' := by
  obtain ⟨⟨a1, a2⟩, ⟨b1, b2⟩, c1, c2⟩ := half_in h
  obtain ⟨⟨x1, x2⟩, ⟨y1, y2⟩, d1, d2⟩ := spot_in k
  have := impl_hold a b c x y d W a1 a2 b1 b2 c1 c2 x1 x2 y1 y2 d1 d2
  rw [show holdH a b c x y d = r by unfold holdH; rw [h, k, e]; rfl] at this
  exact this
end Go.Proofs.Ytkodoedkdgldnaa
