/- The contracts of the functions that round, over the translation, and the walks of their laws. -/
import Derived.Test.YtkodoedkdgldnabOk
namespace Go.Proofs.Ytkodoedkdgldnab
open Go.RowKit

theorem tdiv_range (a b : Int) (hb : 0 < b) (ha : -1000000000000000000 ≤ a) (ha2 : a ≤ 1000000000000000000) : -1000000000000000000 ≤ a.tdiv b ∧ a.tdiv b ≤ 1000000000000000000 := by
  have h := floor_range a b hb ha ha2
  by_cases h1 : a.tmod b < 0
  · have h2 := floor_neg a b hb h1
    have h3 : a / b < 1000000000000000000 := by
      apply Int.ediv_lt_of_lt_mul hb
      have h4 : a < 0 := by
        rcases Int.lt_or_le a 0 with h3 | h3
        · exact h3
        · have := Int.tmod_nonneg b h3; omega
      have : 0 ≤ 1000000000000000000 * b := Int.mul_nonneg (by omega) (by omega)
      omega
    omega
  · rw [floor_pos a b hb h1]; exact h

/-- rounded down, or 0 -/
def floR (n d : Int) : Int := if okR n d = true then n / d else 0
/-- rounded up, or 0 -/
def ceiR (n d : Int) : Int := if okR n d = true then -((-n) / d) else 0
theorem below_box2 {w w' : World} (h : Below w.heap.size w w') (o : Obj) : Below w.heap.size w (w'.alloc o) := h.trans ((below_box w' o).mono h.size)

end Go.Proofs.Ytkodoedkdgldnab
