/- The contracts of the laws' makers of spots, over the translation: with few imports, for the seats that do not print. -/
import Derived.Test.YtefafkainfhhkaaSpo
import Derived.Test.YtefafkainfhhkaaSrc
namespace Go.Proofs.Ytefafkainfhhkaa
open Go.RowKit

theorem ans_low {x y d : Int} (h : okS x y d = true) : ansS x y d = spotS x y d := by
  obtain ⟨h1, _, _, _, _, _, h7⟩ := (okS_iff _ _ _).1 h
  rw [ansS_if (X := x) (Y := y) (D := d) (g := 1) (by rw [h7]; rfl) h1 (Int.tdiv_one _) (Int.tdiv_one _) (Int.tdiv_one _), h]
  rfl
/-- divided by what divides all three, a spot is in lowest terms -/
theorem red_low {x y d X Y D : Int} (hd : 1 ≤ d) (hx : x = X * (gS x y d : Int)) (hy : y = Y * (gS x y d : Int)) (hD : d = D * (gS x y d : Int)) : gS X Y D = 1 := by
  have hg := gS_pos x y d hd
  refine gS_one fun k k1 k2 k3 => ?_
  have key : ∀ u U : Int, u = U * (gS x y d : Int) → (k : Int) ∣ U → ((k : Int) * (gS x y d : Int)) ∣ u := by
    rintro u U hu ⟨t, rfl⟩
    exact ⟨t, by rw [hu, Int.mul_assoc, Int.mul_assoc, Int.mul_comm t]⟩
  have h := dvd_gS (key x X hx k1) (key y Y hy k2) (key d D hD k3)
  generalize gS x y d = g at *
  have h' : k * g ∣ 1 * g := by
    rw [Nat.one_mul]
    exact Int.natCast_dvd_natCast.1 (by simpa using h)
  exact Nat.dvd_one.1 (Nat.dvd_of_mul_dvd_mul_right (by omega) h')
theorem mul_pos_of {D g d : Int} (hg : 1 ≤ g) (hd : 1 ≤ d) (h : d = D * g) : 1 ≤ D ∧ D ≤ d := by
  have h1 : 1 ≤ D := by
    rcases Int.lt_or_le D 1 with k | k
    · have : D * g ≤ 0 := Int.mul_nonpos_of_nonpos_of_nonneg (by omega) (by omega)
      omega
    · exact k
  have : D * 1 ≤ D * g := Int.mul_le_mul_of_nonneg_left hg (by omega)
  omega
/-- where the coordinates are within the limits there is a valid spot -/
theorem has_spot {x y d : Int} (h1 : 1 ≤ d) (h2 : d ≤ 5000000000) (hx : -(1000 * d) ≤ x) (hx2 : x ≤ 1000 * d) (hy : -(1000 * d) ≤ y) (hy2 : y ≤ 1000 * d) :
    ∃ X Y D g : Int, ansS x y d = spotS X Y D ∧ okS X Y D = true ∧ 1 ≤ g ∧ x = X * g ∧ y = Y * g ∧ d = D * g := by
  have hg : (1 : Int) ≤ (gS x y d : Int) := by have := gS_pos x y d h1; omega
  have ex : x = x.tdiv (gS x y d) * (gS x y d : Int) := (Int.tdiv_mul_cancel (gS_dvd_x x y d)).symm
  have ey : y = y.tdiv (gS x y d) * (gS x y d : Int) := (Int.tdiv_mul_cancel (gS_dvd_y x y d)).symm
  have ed : d = d.tdiv (gS x y d) * (gS x y d : Int) := (Int.tdiv_mul_cancel (gS_dvd_d x y d)).symm
  have hl := red_low h1 ex ey ed
  have hA := fun (h : hasS x y d = true) => ansS_yes h
  rw [hasS_of h1] at hA
  generalize hG : (gS x y d : Int) = g at *
  generalize x.tdiv g = X at *
  generalize y.tdiv g = Y at *
  generalize d.tdiv g = D at *
  obtain ⟨hD, hD2⟩ := mul_pos_of hg h1 ed
  have lim : ∀ u U : Int, u = U * g → -(1000 * d) ≤ u → u ≤ 1000 * d → -(1000 * D) ≤ U ∧ U ≤ 1000 * D := by
    intro u U hu k1 k2
    rw [hu, ed] at k1 k2
    constructor
    · have : -(1000 * D) * g ≤ U * g := by rw [Int.neg_mul, Int.mul_assoc]; exact k1
      exact Int.le_of_mul_le_mul_right this (by omega)
    · have : U * g ≤ 1000 * D * g := by rw [Int.mul_assoc]; exact k2
      exact Int.le_of_mul_le_mul_right this (by omega)
  obtain ⟨l1, l2⟩ := lim x X ex hx hx2
  obtain ⟨l3, l4⟩ := lim y Y ey hy hy2
  have hok : okS X Y D = true := (okS_iff _ _ _).2 ⟨hD, by omega, l1, l2, l3, l4, hl⟩
  exact ⟨X, Y, D, g, hA hok, hok, hg, ex, ey, ed⟩
/-- a valid spot, small -/
def SmallS (X Y D : Int) : Prop := okS X Y D = true ∧ -200 ≤ X ∧ X ≤ 200 ∧ -200 ≤ Y ∧ Y ≤ 200 ∧ 1 ≤ D ∧ D ≤ 10
theorem small_div {x X g : Int} (hg : 1 ≤ g) (h : x = X * g) (h1 : -200 ≤ x) (h2 : x ≤ 200) : -200 ≤ X ∧ X ≤ 200 := by
  rcases Int.lt_or_le X 0 with k | k
  · have : X * g ≤ X * 1 := Int.mul_le_mul_of_nonpos_left (by omega) hg
    omega
  · have : X * 1 ≤ X * g := Int.mul_le_mul_of_nonneg_left hg k
    omega
theorem small_spot (x y d : Int) (hx : -200 ≤ x) (hx2 : x ≤ 199) (hy : -200 ≤ y) (hy2 : y ≤ 199) (hd : 1 ≤ d) (hd2 : d ≤ 10) : ∃ X Y D : Int, ansS x y d = spotS X Y D ∧ SmallS X Y D := by
  obtain ⟨X, Y, D, g, hA, hok, hg, ex, ey, ed⟩ := has_spot (x := x) (y := y) hd (by omega) (by omega) (by omega) (by omega) (by omega)
  obtain ⟨x1, x2⟩ := small_div hg ex hx (by omega)
  obtain ⟨y1, y2⟩ := small_div hg ey hy (by omega)
  obtain ⟨d1, d2⟩ := mul_pos_of hg hd ed
  exact ⟨X, Y, D, hA, hok, x1, x2, y1, y2, d1, by omega⟩
/-- a small valid spot, out of new memory alone -/
def MadeS (w : World) (e : Ending) (w' : World) : Prop := ∃ X Y D : Int, SmallS X Y D ∧ e = .returned (.agg #[.int .i64 X, .int .i64 Y, .int .i64 D]) ∧ Below w.heap.size w w'
end Go.Proofs.Ytefafkainfhhkaa
