/- The contracts of both RatioOk functions over the translation, and the walk of their law. -/
import Derived.Test.YtkodoedkdgldnabGcd
namespace Go.Proofs.Ytkodoedkdgldnab
open Go.RowKit

theorem ret_bool2 {a b : Bool} (h : a = b) : Ending.returned (.bool a) = .returned (.bool b) := by rw [h]
/-- within two bounds -/
def inB (n lo hi : Int) : Bool := decide (lo ≤ n) && decide (n ≤ hi)
theorem in_spec (n lo hi : Int) (w : World) :
    Calls Try.prog 20 #[.int .i64 n, .int .i64 lo, .int .i64 hi] w fun e w' => e = .returned (.bool (inB n lo hi)) ∧ w' = w := by
  by_cases h1 : lo ≤ n
  · by_cases h2 : n ≤ hi
    all_goals
      go_enter Try.func20, Try.ntmps20
      go_wp2
      go_ret
      exact ⟨ret_bool2 (by unfold inB; simp; omega), rfl⟩
  · go_enter Try.func20, Try.ntmps20
    go_wp2
    go_ret
    exact ⟨ret_bool2 (by unfold inB; simp; omega), rfl⟩

theorem okR_in (n d : Int) : okR n d = (inB d 1 1000000000000000 && inB n (-1000000000000000000) 1000000000000000000 && (gcdR n d == 1)) := by
  by_cases h : okR n d = true
  · rw [h]
    obtain ⟨h1, h2, h3, h4, h5⟩ := (okR_iff _ _).1 h
    unfold inB
    rw [gcdR_of _ _ (by omega) (by omega), h5, decide_eq_true h1, decide_eq_true h2, decide_eq_true h3, decide_eq_true h4]; rfl
  · rw [Bool.not_eq_true] at h
    rw [h]
    cases hx : (inB d 1 1000000000000000 && inB n (-1000000000000000000) 1000000000000000000 && (gcdR n d == 1)) with
    | false => rfl
    | true =>
      simp only [inB, Bool.and_eq_true, decide_eq_true_eq, beq_iff_eq] at hx
      obtain ⟨⟨⟨h1, h2⟩, h3, h4⟩, h5⟩ := hx
      rw [gcdR_of _ _ (by omega) (by omega)] at h5
      rw [(okR_iff n d).2 ⟨h1, h2, h3, h4, by omega⟩] at h
      cases h

theorem okR_no {n d : Int} (h : d < 1 ∨ 1000000000000000 < d ∨ n < -1000000000000000000 ∨ 1000000000000000000 < n) : false = okR n d := by
  cases hx : okR n d with
  | false => rfl
  | true => obtain ⟨h1, h2, h3, h4, h5⟩ := (okR_iff _ _).1 hx; omega
theorem okR_yes {n d : Int} (h1 : 1 ≤ d) (h2 : d ≤ 1000000000000000) (h3 : -1000000000000000000 ≤ n) (h4 : n ≤ 1000000000000000000) : (gcdR n d == 1) = okR n d := by
  rw [okR_in]; unfold inB
  rw [decide_eq_true h1, decide_eq_true h2, decide_eq_true h3, decide_eq_true h4]; rfl
theorem below_drew {w w' : World} (h : Below w.heap.size w w') (k : Nat) : Below w.heap.size w (w'.drewN k) := h.trans ((below_drewN w' k).mono h.size)
theorem below_box (w : World) (o : Obj) : Below w.heap.size w (w.alloc o) := (Below.refl _ _).alloc (Nat.le_refl _) _

theorem boxed {w w1 : World} {a b : Value} {T : TypeId} (hb : Below (w.alloc (.cells #[a, b] T)).heap.size (w.alloc (.cells #[a, b] T)) w1) :
    w1.cell? ⟨w.heap.size, 0, none⟩ = some a ∧ w1.cell? ⟨w.heap.size, 1, none⟩ = some b ∧ w.heap.size < w1.heap.size := by
  have hz := hb.size
  simp at hz
  refine ⟨?_, ?_, by omega⟩
  · rw [hb.cell (p := ⟨w.heap.size, 0, none⟩) (by simp)]
    exact cell_of_row _ _ _ _ _ _ (heap_alloc_new w _)
  · rw [hb.cell (p := ⟨w.heap.size, 1, none⟩) (by simp)]
    exact cell_of_row _ _ _ _ _ _ (heap_alloc_new w _)

end Go.Proofs.Ytkodoedkdgldnab
