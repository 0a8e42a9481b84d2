/- The contracts of both SameDirection functions over the translation, and the walk of their law. -/
import Derived.Test.YtkodoedkdgldnabBef
namespace Go.Proofs.Ytkodoedkdgldnab
open Go.RowKit

/-- two directions have the same angle -/
def sdV (a b x y : Int) : Bool := decide (a * y - b * x = 0) && (upB a b == upB x y)
/-- what SameDirection answers -/
def sdH (a b c x y d : Int) : Bool := okH a b c && okH x y d && sdV a b x y
theorem mul_pos_neg {a b : Int} (h : 0 < a * b) : (0 < a ∧ 0 < b) ∨ (a < 0 ∧ b < 0) := by
  rcases Int.lt_trichotomy a 0 with k | k | k
  · rcases Int.lt_trichotomy b 0 with l | l | l
    · exact .inr ⟨k, l⟩
    · subst l; simp at h
    · have := Int.mul_neg_of_neg_of_pos k l; omega
  · subst k; simp at h
  · rcases Int.lt_trichotomy b 0 with l | l | l
    · have := Int.mul_neg_of_pos_of_neg k l; omega
    · subst l; simp at h
    · exact .inl ⟨k, l⟩
theorem sq_pos {a : Int} (h : a ≠ 0) : 0 < a * a := by
  rcases Int.lt_or_gt_of_ne h with k | k
  · exact Int.mul_pos_of_neg_of_neg k k
  · exact Int.mul_pos k k
theorem sq_nn (a : Int) : 0 ≤ a * a := by
  by_cases h : a = 0
  · subst h; simp
  · exact Int.le_of_lt (sq_pos h)
/-- where two directions are parallel, the sign of their product tells whether they point the same way -/
theorem same_dir {a b x y : Int} (h : a ≠ 0 ∨ b ≠ 0) (k : x ≠ 0 ∨ y ≠ 0) : (decide (a * y = x * b) && decide (0 < a * x + b * y)) = sdV a b x y := by
  unfold sdV
  by_cases e : a * y = x * b
  · have e' : a * y - b * x = 0 := by rw [e, Int.mul_comm x b]; omega
    rw [decide_eq_true e, decide_eq_true e', Bool.true_and, Bool.true_and]
    by_cases hb : b = 0
    · subst hb
      have ha : a ≠ 0 := by omega
      have hy : y = 0 := by
        rw [Int.mul_zero] at e
        rcases Int.mul_eq_zero.1 e with q | q
        · exact absurd q ha
        · exact q
      subst hy
      have hx : x ≠ 0 := by omega
      rw [up_z rfl, up_z rfl, Int.zero_mul, Int.add_zero, Bool.eq_iff_iff]
      simp
      constructor
      · intro q
        rcases mul_pos_neg q with q | q <;> omega
      · intro q
        rcases Int.lt_or_gt_of_ne ha with r | r
        · exact Int.mul_pos_of_neg_of_neg r (by omega)
        · exact Int.mul_pos r (by omega)
    · have hy : y ≠ 0 := by
        intro q
        subst q
        rw [Int.mul_zero] at e
        rcases Int.mul_eq_zero.1 e.symm with q | q
        · omega
        · exact hb q
      have key : b * (a * x + b * y) = y * (a * a + b * b) := by
        rw [Int.mul_add, Int.mul_add, ← Int.mul_assoc, ← Int.mul_assoc, ← Int.mul_assoc, ← Int.mul_assoc, Int.mul_comm b a, Int.mul_assoc a b x, Int.mul_comm b x, ← e, ← Int.mul_assoc, Int.mul_comm y a, Int.mul_assoc a y a, Int.mul_comm y a, ← Int.mul_assoc, Int.mul_comm y b, Int.mul_assoc b y b, Int.mul_comm y b, ← Int.mul_assoc]
      have sq : 0 < a * a + b * b := by have := sq_nn a; have := sq_pos hb; omega
      generalize a * a + b * b = S at *
      generalize a * x + b * y = T at *
      rcases Int.lt_or_gt_of_ne hb with r | r <;> rcases Int.lt_or_gt_of_ne hy with s | s
      · rw [up_n r, up_n s]
        have q := Int.mul_neg_of_neg_of_pos s sq
        rw [← key] at q
        have : 0 < T := by
          rcases Int.lt_or_le 0 T with t | t
          · exact t
          · have := Int.mul_nonneg_of_nonpos_of_nonpos (by omega : b ≤ 0) t; omega
        simp [this]
      · rw [up_n r, up_b s]
        have q := Int.mul_pos s sq
        rw [← key] at q
        have : ¬ 0 < T := by
          intro t
          have := Int.mul_neg_of_neg_of_pos r t; omega
        simp; omega
      · rw [up_b r, up_n s]
        have q := Int.mul_neg_of_neg_of_pos s sq
        rw [← key] at q
        have : ¬ 0 < T := by
          intro t
          have := Int.mul_pos r t; omega
        simp; omega
      · rw [up_b r, up_b s]
        have q := Int.mul_pos s sq
        rw [← key] at q
        have : 0 < T := by
          rcases Int.lt_or_le 0 T with t | t
          · exact t
          · have := Int.mul_nonpos_of_nonneg_of_nonpos (by omega : 0 ≤ b) t; omega
        simp [this]
  · have e' : ¬ a * y - b * x = 0 := by rw [Int.mul_comm b x]; omega
    rw [decide_eq_false e, decide_eq_false e', Bool.false_and, Bool.false_and]

end Go.Proofs.Ytkodoedkdgldnab
