/- The contract of the model's RatioCmp over the translation. -/
import Derived.Test.YtkodoedkdgldnabFlo
namespace Go.Proofs.Ytkodoedkdgldnab
open Go.RowKit

/-- a valid fraction against another, or 0 -/
def cmpO (a b c d : Int) : Int := if okR a b = true ∧ okR c d = true then cmpR a b c d else 0
theorem cmpO_of {a b c d : Int} (h1 : okR a b = true) (h2 : okR c d = true) : cmpO a b c d = cmpR a b c d := if_pos ⟨h1, h2⟩
theorem cmpO_no1 {a b c d : Int} (h1 : okR a b = false) : cmpO a b c d = 0 := if_neg (by rw [h1]; simp)
theorem cmpO_no2 {a b c d : Int} (h1 : okR c d = false) : cmpO a b c d = 0 := if_neg (by rw [h1]; simp)

theorem boxed2 {w w1 : World} {a b c d : Value} {T U : TypeId} (hb : Below ((w.alloc (.cells #[a, b] T)).alloc (.cells #[c, d] U)).heap.size ((w.alloc (.cells #[a, b] T)).alloc (.cells #[c, d] U)) w1) :
    w1.cell? ⟨w.heap.size, 0, none⟩ = some a ∧ w1.cell? ⟨w.heap.size, 1, none⟩ = some b ∧ w1.cell? ⟨w.heap.size + 1, 0, none⟩ = some c ∧ w1.cell? ⟨w.heap.size + 1, 1, none⟩ = some d ∧ w.heap.size + 1 < w1.heap.size := by
  have h1 := boxed hb
  have h0 := boxed (w1 := w1) ((below_box (w.alloc (.cells #[a, b] T)) (.cells #[c, d] U)).trans (hb.mono (by simp)))
  simp at h1
  exact ⟨h0.1, h0.2.1, h1.1, h1.2.1, h1.2.2⟩

theorem rest_bounds (a b : Int) (hb : 0 < b) : 0 ≤ a - a / b * b ∧ a - a / b * b < b := by
  rw [rest_eq]
  exact ⟨Int.emod_nonneg a (by omega), Int.emod_lt_of_pos a hb⟩
theorem ne_b {a b : Int} (h : a ≠ b) : (a != b) = true := by simpa using h
theorem eq_b {a b : Int} (h : a ≠ b) : (a == b) = false := by simpa using h

/-- what the loop keeps: the comparison that is left, times the sign, is the one that was asked -/
def Left (R a b c d s : Int) : Prop := s * cmpR a b c d = R

theorem left_less {R x y u v s : Int} (h : Left R x y u v s) (e : cmpR x y u v = -1) : -s = R := by unfold Left at h; rw [e] at h; omega
theorem left_more {R x y u v s : Int} (h : Left R x y u v s) (e : cmpR x y u v = 1) : s = R := by unfold Left at h; rw [e] at h; omega
theorem left_rest {R x y u v s m n : Int} (h : Left R x y u v s) (e : cmpR m y n v = cmpR x y u v) : Left R m y n v s := by unfold Left at *; rw [e]; exact h
theorem left_zz {R y v s : Int} (h : Left R 0 y 0 v s) : 0 = R := by unfold Left at h; rw [cmpR_zz] at h; omega
theorem left_next {R m y n v s : Int} (h : Left R m y n v s) : Left R y m v n (-s) := by unfold Left at *; rw [cmpR_turn2, Int.neg_mul_neg]; exact h

end Go.Proofs.Ytkodoedkdgldnab
