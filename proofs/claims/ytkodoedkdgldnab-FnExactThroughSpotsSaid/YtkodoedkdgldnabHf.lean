/- Plain facts on half planes: what is valid. -/
import Derived.Test.YtkodoedkdgldnabSok
namespace Go.Proofs.Ytkodoedkdgldnab

/-- the half plane a x + b y <= c is valid -/
def okH (a b c : Int) : Bool := decide (-50000 ≤ a) && decide (a ≤ 50000) && decide (-50000 ≤ b) && decide (b ≤ 50000) && decide (a ≠ 0 ∨ b ≠ 0) && decide (-100000000 ≤ c) && decide (c ≤ 100000000) && decide (gS a b c = 1)
theorem okH_iff (a b c : Int) : okH a b c = true ↔ -50000 ≤ a ∧ a ≤ 50000 ∧ -50000 ≤ b ∧ b ≤ 50000 ∧ (a ≠ 0 ∨ b ≠ 0) ∧ -100000000 ≤ c ∧ c ≤ 100000000 ∧ gS a b c = 1 := by
  unfold okH; simp only [Bool.and_eq_true, decide_eq_true_eq, and_assoc]
theorem okH_no {a b c : Int} (h : a < -50000 ∨ 50000 < a ∨ b < -50000 ∨ 50000 < b ∨ (a = 0 ∧ b = 0) ∨ c < -100000000 ∨ 100000000 < c) : okH a b c = false := by
  cases hx : okH a b c with
  | false => rfl
  | true => obtain ⟨h1, h2, h3, h4, h5, h6, h7, _⟩ := (okH_iff _ _ _).1 hx; omega
theorem okH_yes {a b c : Int} (h1 : -50000 ≤ a) (h2 : a ≤ 50000) (h3 : -50000 ≤ b) (h4 : b ≤ 50000) (h5 : a ≠ 0 ∨ b ≠ 0) (h6 : -100000000 ≤ c) (h7 : c ≤ 100000000) : okH a b c = ((gS a b c : Int) == 1) := by
  unfold okH
  rw [decide_eq_true h1, decide_eq_true h2, decide_eq_true h3, decide_eq_true h4, decide_eq_true h5, decide_eq_true h6, decide_eq_true h7]
  simp
  rw [Bool.eq_iff_iff]; simp; omega
end Go.Proofs.Ytkodoedkdgldnab
