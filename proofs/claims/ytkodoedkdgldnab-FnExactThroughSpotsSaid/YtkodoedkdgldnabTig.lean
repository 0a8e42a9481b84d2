/- The contracts of both TighterHalf functions over the translation, and the walk of their law. -/
import Derived.Test.YtkodoedkdgldnabSdr
import Derived.Test.YtkodoedkdgldnabHll
namespace Go.Proofs.Ytkodoedkdgldnab
open Go.RowKit

/-- the sum of the magnitudes -/
def lenH (a b : Int) : Int := (a.natAbs : Int) + (b.natAbs : Int)
/-- what TighterHalf answers -/
def tigH (a b c x y d : Int) : Value := if sdH a b c x y d = true then (if d * lenH a b < c * lenH x y then .agg #[.int .i64 x, .int .i64 y, .int .i64 d] else .agg #[.int .i64 a, .int .i64 b, .int .i64 c]) else .agg #[.int .i64 0, .int .i64 0, .int .i64 0]
theorem tigH_ex (a b c x y d : Int) : ∃ X Y D : Int, tigH a b c x y d = .agg #[.int .i64 X, .int .i64 Y, .int .i64 D] := by
  unfold tigH
  split
  · split <;> exact ⟨_, _, _, rfl⟩
  · exact ⟨_, _, _, rfl⟩
theorem sdH_ok {a b c x y d : Int} (h : sdH a b c x y d = true) : okH a b c = true ∧ okH x y d = true := by
  unfold sdH at h
  simp only [Bool.and_eq_true] at h
  exact h.1
theorem len_in {a b c x y d : Int} (h : okH a b c = true) (k : okH x y d = true) : 0 ≤ lenH a b ∧ lenH a b ≤ 100000 ∧ -10000000000000 ≤ d * lenH a b ∧ d * lenH a b ≤ 10000000000000 := by
  obtain ⟨a1, a2, b1, b2, _⟩ := (okH_iff _ _ _).1 h
  obtain ⟨_, _, _, _, _, d1, d2, _⟩ := (okH_iff _ _ _).1 k
  have l : 0 ≤ lenH a b ∧ lenH a b ≤ 100000 := by unfold lenH; omega
  have m := mul_in d (lenH a b) 100000000 100000 d1 d2 (by omega) (by omega)
  omega

end Go.Proofs.Ytkodoedkdgldnab
