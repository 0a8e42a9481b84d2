/- The contracts of the laws' szStringS and toStringS and of the model's Join over the translation. -/
import Derived.Test.YtmmblmgeapogdaaDoorLines2
import Derived.Test.YtmmblmgeapogdaaDoorPad2
namespace Go.Proofs.YtmmblmgeapogdaaDoor
open Go.RowKit

/-- the bytes of all strings -/
def tot (xs : List ByteArray) : Nat := (xs.map ByteArray.size).sum
theorem tot_take (xs : List ByteArray) (k : Nat) (x : ByteArray) (h : xs[k]? = some x) : tot (xs.take (k + 1)) = tot (xs.take k) + x.size := by
  rw [List.take_add_one, h]; simp [tot]
theorem tot_le (xs : List ByteArray) (k : Nat) : tot (xs.take k) ≤ tot xs := by
  have : tot xs = tot (xs.take k) + tot (xs.drop k) := by
    unfold tot
    rw [← List.sum_append, ← List.map_append, List.take_append_drop]
  omega
theorem tot_at (xs : List ByteArray) (k : Nat) (x : ByteArray) (h : xs[k]? = some x) : x.size ≤ tot xs := by
  have h1 := tot_take xs k x h
  have h2 := tot_le xs (k + 1)
  omega

theorem ret_int {k : IntKind} {a b : Int} (h : a = b) : Ending.returned (.int k a) = .returned (.int k b) := by rw [h]
/-- what szStringS answers -/
def szv (n t : Nat) : Int := if n + t ≤ 1048576 then 1048576 - (n : Int) - t else -1
theorem set_take (ys : List Value) (k : Nat) (u : Value) (h : k < ys.length) : (ys.set k u).take (k + 1) = ys.take k ++ [u] := by
  rw [List.take_add_one, List.getElem?_set_self h, List.take_set_of_le (Nat.le_refl _)]
  rfl
theorem map_take (xs : List ByteArray) (k : Nat) (x : ByteArray) (h : xs[k]? = some x) : (xs.take (k + 1)).map Value.string = (xs.take k).map Value.string ++ [.string x] := by
  rw [List.take_add_one, h]; simp

/-- what the model's Join has built of the first k strings -/
def jk (by' : ByteArray) (xs : List ByteArray) : Nat → ByteArray
  | 0 => ByteArray.empty
  | k + 1 => (if 0 < k then jk by' xs k ++ by' else jk by' xs k) ++ xs.getD k ByteArray.empty
theorem jk_size (by' : ByteArray) (xs : List ByteArray) (hb : by'.size ≤ 1048576) : ∀ k, (jk by' xs k).size ≤ tot (xs.take k) + k * 1048576
  | 0 => by simp [jk]
  | k + 1 => by
    have ih := jk_size by' xs hb k
    have e : tot (xs.take (k + 1)) = tot (xs.take k) + (xs.getD k ByteArray.empty).size := by
      by_cases h : k < xs.length
      · rw [tot_take xs k xs[k] (List.getElem?_eq_getElem h), List.getD_eq_getElem?_getD, List.getElem?_eq_getElem h]; rfl
      · rw [List.take_of_length_le (by omega), List.take_of_length_le (by omega), List.getD_eq_getElem?_getD, List.getElem?_eq_none (by omega)]; rfl
    unfold jk
    rw [ByteArray.size_append, e]
    split
    · rw [ByteArray.size_append]; omega
    · omega
theorem jk_pos (by' : ByteArray) (xs : List ByteArray) (k : Nat) (x : ByteArray) (hx : xs[k]? = some x) (h : 0 < k) : jk by' xs (k + 1) = (jk by' xs k ++ by') ++ x := by
  rw [jk, if_pos h, List.getD_eq_getElem?_getD, hx]; rfl
theorem jk_zero (by' : ByteArray) (xs : List ByteArray) (x : ByteArray) (hx : xs[0]? = some x) : jk by' xs 1 = jk by' xs 0 ++ x := by
  show (if 0 < 0 then jk by' xs 0 ++ by' else jk by' xs 0) ++ xs.getD 0 ByteArray.empty = _
  rw [if_neg (by omega), List.getD_eq_getElem?_getD, hx]; rfl

end Go.Proofs.YtmmblmgeapogdaaDoor
