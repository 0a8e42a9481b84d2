/- The contracts of both ShiftSpot and HalfWay functions over the translation. -/
import Derived.Test.YtkodoedkdgldnabSof2
namespace Go.Proofs.Ytkodoedkdgldnab
open Go.RowKit

theorem ansS_ex (x y d : Int) : ∃ X Y D : Int, ∃ B : Bool, ansS x y d = .tuple #[.agg #[.int .i64 X, .int .i64 Y, .int .i64 D], .bool B] := ⟨_, _, _, _, rfl⟩
/-- what ShiftSpot answers -/
def shiftS (x y d a b : Int) : Value := if okS x y d = true ∧ -2000 ≤ a ∧ a ≤ 2000 ∧ -2000 ≤ b ∧ b ≤ 2000 then ansS (x + a * d) (y + b * d) d else zeroS
theorem mul_in (a d A D : Int) (ha : -A ≤ a) (ha2 : a ≤ A) (hd : -D ≤ d) (hd2 : d ≤ D) : -(A * D) ≤ a * d ∧ a * d ≤ A * D := by
  have h : (a * d).natAbs ≤ (A * D).natAbs := by
    rw [Int.natAbs_mul, Int.natAbs_mul]
    exact Nat.mul_le_mul (by omega) (by omega)
  have h2 : 0 ≤ A * D := Int.mul_nonneg (by omega) (by omega)
  omega
theorem shift_in {x d a : Int} (h1 : 1 ≤ d) (h2 : d ≤ 5000000000) (h3 : -(1000 * d) ≤ x) (h4 : x ≤ 1000 * d) (ha : -2000 ≤ a) (ha2 : a ≤ 2000) : -10000000000000 ≤ a * d ∧ a * d ≤ 10000000000000 ∧ -15000000000000 ≤ x + a * d ∧ x + a * d ≤ 15000000000000 := by
  have := mul_in a d 2000 5000000000 ha ha2 (by omega) h2
  omega
/-- moved, a valid spot is in lowest terms -/
theorem moved {x y d a b : Int} (h : okS x y d = true) : ansS (x + a * d) (y + b * d) d = .tuple #[.agg #[.int .i64 (kp (okS (x + a * d) (y + b * d) d) (x + a * d)), .int .i64 (kp (okS (x + a * d) (y + b * d) d) (y + b * d)), .int .i64 (kp (okS (x + a * d) (y + b * d) d) d)], .bool (okS (x + a * d) (y + b * d) d)] := by
  obtain ⟨h1, _, _, _, _, _, h7⟩ := (okS_iff _ _ _).1 h
  have e := gS_move x y d a b h7
  exact ansS_if (g := 1) (by rw [e]; rfl) h1 (Int.tdiv_one _) (Int.tdiv_one _) (Int.tdiv_one _)
theorem sboxes {w w1 : World} {a b c x y d : Value} {T U : TypeId} (hb : Below ((w.alloc (.cells #[a, b, c] T)).alloc (.cells #[x, y, d] U)).heap.size ((w.alloc (.cells #[a, b, c] T)).alloc (.cells #[x, y, d] U)) w1) :
    Has3 w1 w.heap.size a b c ∧ Has3 w1 (w.heap.size + 1) x y d ∧ Below w.heap.size w w1 := boxes3 (k := 0) hb

end Go.Proofs.Ytkodoedkdgldnab
