/- The contract of the program's Join over the translation, and the walk of its law. -/
import Derived.Test.YtmmblmgeapogdaaDoorJoin
namespace Go.Proofs.YtmmblmgeapogdaaDoor
open Go.RowKit

theorem jk_join (by' x : ByteArray) (r : List ByteArray) : ∀ k, k ≤ r.length → (jk by' (x :: r) (k + 1)).data.toList = x.data.toList ++ Lib.joinTail by'.data.toList ((r.map (·.data.toList)).take k)
  | 0, _ => by
    rw [jk_zero by' (x :: r) x rfl]
    simp [jk, Lib.joinTail]
  | k + 1, hk => by
    have hy : (x :: r)[k + 1]? = some r[k] := by simp [List.getElem?_eq_getElem (show k < r.length by omega)]
    rw [jk_pos by' (x :: r) (k + 1) r[k] hy (by omega), Lib.joinTail_take_succ by'.data.toList (r.map (·.data.toList)) k r[k].data.toList (by simp [List.getElem?_eq_getElem (show k < r.length by omega)])]
    simp only [ByteArray.data_append, Array.toList_append]
    rw [jk_join by' x r k (by omega)]
    simp
theorem jk_all (by' : ByteArray) (xs : List ByteArray) : (⟨(Lib.join (xs.map (·.data.toList)) by'.data.toList).toArray⟩ : ByteArray) = jk by' xs xs.length := by
  cases xs with
  | nil => simp [Lib.join_nil, jk]; rfl
  | cons x r =>
    apply ByteArray.ext; apply Array.ext'
    have h := jk_join by' x r r.length (Nat.le_refl _)
    rw [List.take_of_length_le (by simp)] at h
    simp only [List.length_cons]
    rw [h, List.map_cons, Lib.join_cons]
theorem join_len (by' : ByteArray) (xs : List ByteArray) (n : Nat) (hn : xs.length = n) (hn2 : n ≤ 1048576) (hb : by'.size ≤ 1048576) (ht : tot xs ≤ 1048576) : (Lib.join (xs.map (·.data.toList)) by'.data.toList).length ≤ 140737488355328 := by
  have h1 := jk_size by' xs hb n
  have h2 := tot_le xs n
  have h3 : n * 1048576 ≤ 1048576 * 1048576 := Nat.mul_le_mul_right _ (by omega)
  have h4 : (Lib.join (xs.map (·.data.toList)) by'.data.toList).length = (jk by' xs n).size := by
    rw [← hn, ← jk_all by' xs]; simp [ByteArray.size]
  omega

theorem join_none (by' : ByteArray) (w : World) :
    Calls Tryd.prog 23 #[.string by', .slice none 0 0] w fun e w' => e = .returned (.string ⟨#[]⟩) ∧ w = w' := by
  go_enter Tryd.func23, Tryd.ntmps23
  go_wp2_with fail
  refine (Tryd.strings_Join_none none 0 by' _).mono ?_
  rintro e w1 ⟨rfl, rfl⟩
  go_wp2
  go_ret
  exact ⟨rfl, rfl⟩
/-- impl.Join on an owned row -/
theorem impl_join {w : World} {B n : Nat} {v : Value} {xs : List ByteArray} (by' : ByteArray) (h : w.ownsRow B 9 1 v n (xs.map Value.string)) (hn : n ≤ 1048576) (hb : by'.size ≤ 1048576) (ht : tot xs ≤ 1048576) :
    Calls Tryd.prog 10 #[v, .string by'] w fun e w' => e = .returned (.string (jk by' xs n)) ∧ Below w.heap.size w w' := by
  have hl : xs.length = n := by have := h.1; simpa using this
  have HJ := Lib.hid (jk_all by' xs)
  rcases h.2 with ⟨rfl, rfl⟩ | ⟨g, cap, cur, rfl, _, hh, hcap, _⟩
  · have hx : xs = [] := List.length_eq_zero_iff.1 hl
    subst hx
    clear h HJ ht
    go_enter Tryd.func10, Tryd.ntmps10
    go_wp2_with fail
    refine (join_none by' _).mono ?_
    rintro e w1 ⟨rfl, rfl⟩
    go_wp2
    go_ret
    exact ⟨rfl, Below.refl _ _⟩
  · have hcells : ∀ (j : Nat) x, xs[j]? = some x → w.cell? ⟨g, 0 + j, none⟩ = some (.string x) := by
      obtain ⟨_, ao, cap', e, hs⟩ := own_view h
      intro j x hx
      obtain ⟨g', o', e', hc⟩ := hs j x hx
      simp at e
      rw [e'] at e
      simp at e
      obtain ⟨⟨rfl, rfl⟩, _⟩ := e
      exact hc
    have HC := Lib.hid (join_parts g 0 cap xs by' w hcells (lt_of_block hh) (by omega) (by omega) (join_len by' xs n hl hn hb ht))
    rw [HJ.out, hl] at HC
    clear h HJ ht hh hcells hcap
    generalize jk by' xs n = r at *
    go_enter Tryd.func10, Tryd.ntmps10
    go_wp2_with fail
    refine HC.out.mono ?_
    rintro e w1 ⟨rfl, hb1⟩
    go_wp2
    go_ret
    exact ⟨rfl, hb1⟩

end Go.Proofs.YtmmblmgeapogdaaDoor
