/- Plain facts on spots: what is valid, and a spot in lowest terms. -/
import Derived.Test.YtkodoedkdgldnabRat
namespace Go.Proofs.Ytkodoedkdgldnab

/-- the greatest common divisor of three numbers -/
def gS (x y d : Int) : Nat := Int.gcd (Int.gcd x y) d
/-- the spot x / d, y / d is valid -/
def okS (x y d : Int) : Bool := decide (1 ≤ d) && decide (d ≤ 5000000000) && decide (-(1000 * d) ≤ x) && decide (x ≤ 1000 * d) && decide (-(1000 * d) ≤ y) && decide (y ≤ 1000 * d) && decide (gS x y d = 1)
theorem okS_iff (x y d : Int) : okS x y d = true ↔ 1 ≤ d ∧ d ≤ 5000000000 ∧ -(1000 * d) ≤ x ∧ x ≤ 1000 * d ∧ -(1000 * d) ≤ y ∧ y ≤ 1000 * d ∧ gS x y d = 1 := by
  unfold okS; simp [and_assoc]
theorem okS_no {x y d : Int} (h : d < 1 ∨ 5000000000 < d ∨ x < -(1000 * d) ∨ 1000 * d < x ∨ y < -(1000 * d) ∨ 1000 * d < y) : okS x y d = false := by
  cases hx : okS x y d with
  | false => rfl
  | true => obtain ⟨h1, h2, h3, h4, h5, h6, _⟩ := (okS_iff _ _ _).1 hx; omega
theorem okS_yes {x y d : Int} (h1 : 1 ≤ d) (h2 : d ≤ 5000000000) (h3 : -(1000 * d) ≤ x) (h4 : x ≤ 1000 * d) (h5 : -(1000 * d) ≤ y) (h6 : y ≤ 1000 * d) : okS x y d = ((gS x y d : Int) == 1) := by
  unfold okS
  rw [decide_eq_true h1, decide_eq_true h2, decide_eq_true h3, decide_eq_true h4, decide_eq_true h5, decide_eq_true h6]
  simp
  rw [Bool.eq_iff_iff]; simp; omega
theorem gcd_le_max (a b M : Int) (ha : -M ≤ a) (ha2 : a ≤ M) (hb : -M ≤ b) (hb2 : b ≤ M) : (Int.gcd a b : Int) ≤ M := by
  show ((Nat.gcd a.natAbs b.natAbs : Nat) : Int) ≤ _
  by_cases h : 0 < a.natAbs
  · have := Nat.gcd_le_left b.natAbs h; omega
  · have : a.natAbs = 0 := by omega
    rw [this, Nat.gcd_zero_left]; omega
theorem gS_le (x y d : Int) (hd : 1 ≤ d) : (gS x y d : Int) ≤ d := by
  unfold gS
  have := Nat.gcd_le_right (m := (Int.gcd x y : Int).natAbs) (n := d.natAbs) (by omega)
  show ((Nat.gcd _ _ : Nat) : Int) ≤ _
  omega
theorem gS_pos (x y d : Int) (hd : 1 ≤ d) : 1 ≤ gS x y d := by
  unfold gS
  exact Nat.gcd_pos_of_pos_right _ (by omega)
theorem gS_dvd_x (x y d : Int) : (gS x y d : Int) ∣ x :=
  Int.dvd_trans (Int.gcd_dvd_left (Int.gcd x y : Int) d) (Int.gcd_dvd_left x y)
theorem gS_dvd_y (x y d : Int) : (gS x y d : Int) ∣ y :=
  Int.dvd_trans (Int.gcd_dvd_left (Int.gcd x y : Int) d) (Int.gcd_dvd_right x y)
theorem gS_dvd_d (x y d : Int) : (gS x y d : Int) ∣ d := Int.gcd_dvd_right (Int.gcd x y : Int) d
theorem dvd_gS {x y d k : Int} (hx : k ∣ x) (hy : k ∣ y) (hd : k ∣ d) : k ∣ (gS x y d : Int) :=
  Int.dvd_coe_gcd (Int.dvd_coe_gcd hx hy) hd
theorem gS_one {x y d : Int} (h : ∀ k : Nat, (k : Int) ∣ x → (k : Int) ∣ y → (k : Int) ∣ d → k = 1) : gS x y d = 1 :=
  h _ (gS_dvd_x x y d) (gS_dvd_y x y d) (gS_dvd_d x y d)
theorem of_gS_one {x y d : Int} (h : gS x y d = 1) (k : Nat) (hx : (k : Int) ∣ x) (hy : (k : Int) ∣ y) (hd : (k : Int) ∣ d) : k = 1 := by
  have := dvd_gS hx hy hd
  rw [h] at this
  exact Nat.dvd_one.1 (Int.natCast_dvd_natCast.1 this)
/-- moving by whole numbers keeps the lowest terms -/
theorem gS_move (x y d a b : Int) (h : gS x y d = 1) : gS (x + a * d) (y + b * d) d = 1 := by
  refine gS_one fun k hx hy hd => of_gS_one h k ?_ ?_ hd
  · have := Int.dvd_sub hx (Int.dvd_mul_of_dvd_right hd (b := a)); simpa using this
  · have := Int.dvd_sub hy (Int.dvd_mul_of_dvd_right hd (b := b)); simpa using this

/-- there is a valid spot with the coordinates x / d and y / d -/
def hasS (x y d : Int) : Bool := decide (1 ≤ d) && okS (x.tdiv (gS x y d)) (y.tdiv (gS x y d)) (d.tdiv (gS x y d))
def xS (x y d : Int) : Int := if hasS x y d = true then x.tdiv (gS x y d) else 0
def yS (x y d : Int) : Int := if hasS x y d = true then y.tdiv (gS x y d) else 0
def dS (x y d : Int) : Int := if hasS x y d = true then d.tdiv (gS x y d) else 0
theorem hasS_pos {x y d : Int} (h : hasS x y d = true) : 1 ≤ d ∧ okS (x.tdiv (gS x y d)) (y.tdiv (gS x y d)) (d.tdiv (gS x y d)) = true := by
  unfold hasS at h; simpa using h
theorem hasS_no {x y d : Int} (h : ¬ 1 ≤ d) : hasS x y d = false := by unfold hasS; simp [h]
theorem hasS_of {x y d : Int} (h : 1 ≤ d) : hasS x y d = okS (x.tdiv (gS x y d)) (y.tdiv (gS x y d)) (d.tdiv (gS x y d)) := by unfold hasS; simp [h]
theorem tdiv_le (a g M : Int) (h : -M ≤ a) (h2 : a ≤ M) : -M ≤ a.tdiv g ∧ a.tdiv g ≤ M := by
  have h0 := Int.natAbs_tdiv_le_natAbs a g
  omega
end Go.Proofs.Ytkodoedkdgldnab
