/- The contract of the program's Join over the translation, and the walk of its law. -/
import Derived.Test.YtmmblmgeapogdaaJoin
namespace Go.Proofs.Ytmmblmgeapogdaa
open Go.RowKit

theorem jk_join (by' x : ByteArray) (r : List ByteArray) : ∀ k, k ≤ r.length → (jk by' (x :: r) (k + 1)).data.toList = x.data.toList ++ Lib.joinTail by'.data.toList ((r.map (·.data.toList)).take k)
  | 0, _ => by
    rw [jk_zero by' (x :: r) x rfl]
    simp [jk, Lib.joinTail]
  | k + 1, hk => by
    have hy : (x :: r)[k + 1]? = some r[k] := by simp [List.getElem?_eq_getElem (show k < r.length by omega)]
    rw [jk_pos by' (x :: r) (k + 1) r[k] hy (by omega), Lib.joinTail_take_succ by'.data.toList (r.map (·.data.toList)) k r[k].data.toList (by simp [List.getElem?_eq_getElem (show k < r.length by omega)])]
    simp only [ByteArray.data_append, Array.toList_append]
    rw [jk_join by' x r k (by omega)]
    simp
theorem jk_all (by' : ByteArray) (xs : List ByteArray) : (⟨(Lib.join (xs.map (·.data.toList)) by'.data.toList).toArray⟩ : ByteArray) = jk by' xs xs.length := by
  cases xs with
  | nil => simp [Lib.join_nil, jk]; rfl
  | cons x r =>
    apply ByteArray.ext; apply Array.ext'
    have h := jk_join by' x r r.length (Nat.le_refl _)
    rw [List.take_of_length_le (by simp)] at h
    simp only [List.length_cons]
    rw [h, List.map_cons, Lib.join_cons]
theorem join_len (by' : ByteArray) (xs : List ByteArray) (n : Nat) (hn : xs.length = n) (hn2 : n ≤ 1048576) (hb : by'.size ≤ 1048576) (ht : tot xs ≤ 1048576) : (Lib.join (xs.map (·.data.toList)) by'.data.toList).length ≤ 140737488355328 := by
  have h1 := jk_size by' xs hb n
  have h2 := tot_le xs n
  have h3 : n * 1048576 ≤ 1048576 * 1048576 := Nat.mul_le_mul_right _ (by omega)
  have h4 : (Lib.join (xs.map (·.data.toList)) by'.data.toList).length = (jk by' xs n).size := by
    rw [← hn, ← jk_all by' xs]; simp [ByteArray.size]
  omega

theorem join_none (by' : ByteArray) (w : World) :
    Calls Try.prog 31 #[.string by', .slice none 0 0] w fun e w' => e = .returned (.string ⟨#[]⟩) ∧ w = w' := by
  go_enter Try.func31, Try.ntmps31
  go_wp2_with fail
  refine (Try.strings_Join_none none 0 by' _).mono ?_
  rintro e w1 ⟨rfl, rfl⟩
  go_wp2
  go_ret
  exact ⟨rfl, rfl⟩
/-- impl.Join on an owned row -/
theorem impl_join {w : World} {B n : Nat} {v : Value} {xs : List ByteArray} (by' : ByteArray) (h : w.ownsRow B 9 1 v n (xs.map Value.string)) (hn : n ≤ 1048576) (hb : by'.size ≤ 1048576) (ht : tot xs ≤ 1048576) :
    Calls Try.prog 23 #[v, .string by'] w fun e w' => e = .returned (.string (jk by' xs n)) ∧ Below w.heap.size w w' := by
  have hl : xs.length = n := by have := h.1; simpa using this
  have HJ := Lib.hid (jk_all by' xs)
  rcases h.2 with ⟨rfl, rfl⟩ | ⟨g, cap, cur, rfl, _, hh, hcap, _⟩
  · have hx : xs = [] := List.length_eq_zero_iff.1 hl
    subst hx
    clear h HJ ht
    go_enter Try.func23, Try.ntmps23
    go_wp2_with fail
    refine (join_none by' _).mono ?_
    rintro e w1 ⟨rfl, rfl⟩
    go_wp2
    go_ret
    exact ⟨rfl, Below.refl _ _⟩
  · have hcells : ∀ (j : Nat) x, xs[j]? = some x → w.cell? ⟨g, 0 + j, none⟩ = some (.string x) := by
      obtain ⟨_, ao, cap', e, hs⟩ := own_view h
      intro j x hx
      obtain ⟨g', o', e', hc⟩ := hs j x hx
      simp at e
      rw [e'] at e
      simp at e
      obtain ⟨⟨rfl, rfl⟩, _⟩ := e
      exact hc
    have HC := Lib.hid (join_parts g 0 cap xs by' w hcells (lt_of_block hh) (by omega) (by omega) (join_len by' xs n hl hn hb ht))
    rw [HJ.out, hl] at HC
    clear h HJ ht hh hcells hcap
    generalize jk by' xs n = r at *
    go_enter Try.func23, Try.ntmps23
    go_wp2_with fail
    refine HC.out.mono ?_
    rintro e w1 ⟨rfl, hb1⟩
    go_wp2
    go_ret
    exact ⟨rfl, hb1⟩

theorem spec_join_own {w : World} {B n : Nat} {v : Value} {xs : List ByteArray} (by' : ByteArray) (h : w.ownsRow B 9 1 v n (xs.map Value.string)) (hn : n ≤ 1048576) (hb : by'.size ≤ 1048576) (ht : tot xs ≤ 1048576) :
    Calls Try.prog 21 #[v, .string by'] w fun e w' => e = .returned (.string (jk by' xs n)) ∧ w = w' := by
  obtain ⟨hl, ao, cap, rfl, hs⟩ := own_view h
  exact spec_join ao n cap xs by' w hl hn hb ht hs

set_option maxHeartbeats 1600000 in
theorem law_join (a : Option Addr) (n cap : Nat) (xs : List ByteArray) (by' : ByteArray) (w : World) (hl : xs.length = n) (hn : n ≤ maxLen) (hx : ∀ x ∈ xs, x.size ≤ maxLen) (hA : StrsAt w a xs) :
    Calls Try.prog 7 #[.slice a n cap, .string by'] w fun e w' => e = .returned (.bool true) ∧ Below w.heap.size w w' := by
  have HS := Lib.hid (fun w' (h : StrsAt w' a xs) => sz_strs a n cap xs w' hl hn hx h)
  have HA := Lib.hid hA
  have HL := Lib.hid hl
  clear hn hx hA hl
  by_cases hb : (1048576 : Int) < (by'.size : Int)
  · go_enter Try.func7, Try.ntmps7
    go_wp2
    go_ret
    exact ⟨rfl, Below.refl _ _⟩
  · have hb2 : by'.size ≤ 1048576 := by omega
    by_cases ht : n + tot xs ≤ 1048576
    · have HV := Lib.hid (show szv n (tot xs) = 1048576 - (n : Int) - (tot xs : Nat) by unfold szv; rw [if_pos ht])
      have hn2 : n ≤ 1048576 := by omega
      have ht2 : tot xs ≤ 1048576 := by omega
      go_enter Try.func7, Try.ntmps7
      go_wp2_with fail
      refine (HS.out _ HA.out).mono ?_
      rintro e w0 ⟨rfl, rfl⟩
      rw [HV.out]
      have hz : (0 : Int) ≤ 1048576 - (n : Int) - (tot xs : Nat) := by omega
      generalize (1048576 : Int) - (n : Int) - (tot xs : Nat) = left at *
      go_wp2_with fail
      refine (to_strs a n cap xs _ HL.out hn2 HA.out).mono ?_
      rintro e w1 ⟨v1, rfl, ho1, hb1⟩
      rw [HL.out] at ho1
      have H1 := Lib.hid ho1
      have HA1 := Lib.hid (HA.out.below hb1)
      clear ho1
      go_wp2_with fail
      refine (spec_join_own by' H1.out hn2 hb2 ht2).mono ?_
      rintro e w1' ⟨rfl, rfl⟩
      go_wp2_with fail
      refine (to_strs a n cap xs _ HL.out hn2 HA1.out).mono ?_
      rintro e w2 ⟨v2, rfl, ho2, hb2'⟩
      rw [HL.out] at ho2
      have H2 := Lib.hid ho2
      have HA2 := Lib.hid (HA1.out.below hb2')
      clear ho2
      go_wp2_with fail
      refine (impl_join by' H2.out hn2 hb2 ht2).mono ?_
      rintro e w3 ⟨rfl, hb3⟩
      have H3 := Lib.hid (own_below H2.out hb3)
      have HA3 := Lib.hid (HA2.out.below hb3)
      generalize jk by' xs n = r
      go_wp2_with fail
      refine (to_strs a n cap xs _ HL.out hn2 HA3.out).mono ?_
      rintro e w4 ⟨v4, rfl, ho4, hb4⟩
      rw [HL.out] at ho4
      have H4 := Lib.hid ho4
      have H34 := Lib.hid (own_below H3.out hb4)
      clear ho4
      go_wp2_with fail
      refine (eq_own H34.out H4.out (by omega)).mono ?_
      rintro e w5 ⟨rfl, q, rfl⟩
      go_wp2
      go_ret
      refine ⟨rfl, ?_⟩
      have z1 := hb1.size
      have z2 := hb2'.size
      have z3 := hb3.size
      exact below_drewN (((hb1.trans (hb2'.mono z1)).trans (hb3.mono (by omega))).trans (hb4.mono (by omega))) q
    · have HV := Lib.hid (show szv n (tot xs) = -1 by unfold szv; rw [if_neg ht])
      go_enter Try.func7, Try.ntmps7
      go_wp2_with fail
      refine (HS.out _ HA.out).mono ?_
      rintro e w0 ⟨rfl, rfl⟩
      rw [HV.out]
      go_wp2
      go_ret
      exact ⟨rfl, Below.refl _ _⟩
end Go.Proofs.Ytmmblmgeapogdaa
