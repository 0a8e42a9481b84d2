/- The contracts of the laws' szStringS and toStringS and of the model's Join over the translation. -/
import Derived.Test.YtmmblmgeapogdaaLines2
import Derived.Test.YtmmblmgeapogdaaPad2
namespace Go.Proofs.Ytmmblmgeapogdaa
open Go.RowKit

/-- the bytes of all strings -/
def tot (xs : List ByteArray) : Nat := (xs.map ByteArray.size).sum
theorem tot_take (xs : List ByteArray) (k : Nat) (x : ByteArray) (h : xs[k]? = some x) : tot (xs.take (k + 1)) = tot (xs.take k) + x.size := by
  rw [List.take_add_one, h]; simp [tot]
theorem tot_le (xs : List ByteArray) (k : Nat) : tot (xs.take k) ≤ tot xs := by
  have : tot xs = tot (xs.take k) + tot (xs.drop k) := by
    unfold tot
    rw [← List.sum_append, ← List.map_append, List.take_append_drop]
  omega
theorem tot_at (xs : List ByteArray) (k : Nat) (x : ByteArray) (h : xs[k]? = some x) : x.size ≤ tot xs := by
  have h1 := tot_take xs k x h
  have h2 := tot_le xs (k + 1)
  omega

theorem ret_int {k : IntKind} {a b : Int} (h : a = b) : Ending.returned (.int k a) = .returned (.int k b) := by rw [h]
/-- what szStringS answers -/
def szv (n t : Nat) : Int := if n + t ≤ 1048576 then 1048576 - (n : Int) - t else -1
set_option maxHeartbeats 400000 in
theorem sz_strs (a : Option Addr) (n cap : Nat) (xs : List ByteArray) (w : World) (hl : xs.length = n) (hn : n ≤ maxLen) (hx : ∀ x ∈ xs, x.size ≤ maxLen) (hA : StrsAt w a xs) :
    Calls Try.prog 20 #[.slice a n cap, .int .i64 1048576] w fun e w' => e = .returned (.int .i64 (szv n (tot xs))) ∧ w = w' := by
  unfold maxLen at hn
  have HL := Lib.hid hl
  have HA := Lib.hid hA
  have HX := Lib.hid hx
  clear hl hA hx
  by_cases h0 : 1048576 < n
  · have HS := Lib.hid (show szv n (tot xs) = -1 by unfold szv; rw [if_neg (by omega)])
    go_enter Try.func20, Try.ntmps20
    go_wp2
    go_ret
    exact ⟨ret_int HS.out.symm, rfl⟩
  · go_enter Try.func20, Try.ntmps20
    go_wp2
    go_loop [1, 5] (fun x i => ∃ k : Nat, k ≤ n ∧ i = .int .i64 k ∧ n + tot (xs.take k) ≤ 1048576 ∧ x = .int .i64 (1048576 - (n : Int) - (tot (xs.take k) : Nat))) (fun _ i => n - (intOf i).toNat)
    case atStart => exact ⟨0, Nat.zero_le _, rfl, by simp [tot]; omega, by simp [tot]⟩
    case round =>
      obtain ⟨k, hk, rfl, ht, rfl⟩ := hrel
      by_cases hlt : k < n
      · obtain ⟨x, hxk⟩ : ∃ x, xs[k]? = some x := ⟨_, List.getElem?_eq_getElem (by rw [HL.out]; exact hlt)⟩
        have HT := Lib.hid (tot_take xs k x hxk)
        have hle := tot_le xs (k + 1)
        have hxs := HX.out x (List.mem_of_getElem? hxk)
        unfold maxLen at hxs
        obtain ⟨g, o, rfl, hc⟩ := HA.out k x hxk
        clear hxk
        generalize tot (xs.take k) = t at *
        by_cases hx2 : n + (t + x.size) ≤ 1048576
        · clear hle
          go_wp2
          go_round
          case rel => exact ⟨k + 1, by omega, by go_num, by rw [HT.out]; exact hx2, by rw [HT.out]; go_num⟩
          case measure => simp [intOf]; omega
        · have HS := Lib.hid (show szv n (tot xs) = -1 by unfold szv; rw [if_neg (by rw [HT.out] at hle; omega)])
          clear hle
          go_wp2
          go_ret
          exact ⟨ret_int HS.out.symm, rfl⟩
      · have HS := Lib.hid (show szv n (tot xs) = 1048576 - (n : Int) - (tot (xs.take k) : Nat) by
          rw [List.take_of_length_le (by rw [HL.out]; omega)] at ht ⊢
          unfold szv; rw [if_pos ht])
        generalize tot (xs.take k) = t at *
        go_wp2
        go_ret
        exact ⟨ret_int HS.out.symm, rfl⟩

theorem set_take (ys : List Value) (k : Nat) (u : Value) (h : k < ys.length) : (ys.set k u).take (k + 1) = ys.take k ++ [u] := by
  rw [List.take_add_one, List.getElem?_set_self h, List.take_set_of_le (Nat.le_refl _)]
  rfl
theorem map_take (xs : List ByteArray) (k : Nat) (x : ByteArray) (h : xs[k]? = some x) : (xs.take (k + 1)).map Value.string = (xs.take k).map Value.string ++ [.string x] := by
  rw [List.take_add_one, h]; simp

set_option maxHeartbeats 800000 in
theorem to_strs (a : Option Addr) (n cap : Nat) (xs : List ByteArray) (w : World) (hl : xs.length = n) (hn : n ≤ 1048576) (hA : StrsAt w a xs) :
    Calls Try.prog 22 #[.slice a n cap] w (Gives w xs) := by
  obtain ⟨i0, hi, hz0, hz1, hz2⟩ := info_parts Try.info9
  have HL := Lib.hid hl
  have HA := Lib.hid hA
  clear hl hA
  go_enter Try.func22, Try.ntmps22
  go_wp2_with (at_make; refine wpList_make_full _ rfl _ _ 23 rfl w.heap.size 9 i0 (.string ByteArray.empty) 1 Try.underlying23 hi hz0 hz1 .i64 .i64 _ _ n rfl rfl rfl rfl (by rw [hz2]; omega) (by unfold maxLen; omega) (Nat.le_refl _) ?_)
  intro w1 hown hgrow
  have hb1 : Below w.heap.size w w1 := (Below.refl _ _).grown hgrow (Nat.le_refl _) (fun g hg => by cases hg)
  have hyl : (madeCells #[Value.string ByteArray.empty] n).toList.length = n := by have := hown.1; simpa using this
  generalize (madeCells #[Value.string ByteArray.empty] n).toList = y0 at *
  have HO := Lib.hid hown
  have HY := Lib.hid hyl
  clear hown hyl hgrow
  go_wp2
  go_loopw [4] (fun i wr => ∃ (k : Nat) (ys : List Value), k ≤ n ∧ i = .int .i64 k ∧ ys.length = n ∧ ys.take k = (xs.take k).map Value.string ∧ wr.ownsRow w.heap.size 9 1 (.slice (some ⟨w.heap.size, 0, none⟩) n n) n ys ∧ Below w.heap.size w wr) (fun i _ => n - (intOf i).toNat)
  case atStart => exact ⟨0, y0, Nat.zero_le _, rfl, HY.out, by simp, HO.out, hb1⟩
  case round =>
    obtain ⟨k, ys, hk, rfl, hyl, hyt, ho, hbel⟩ := hrel
    have H1 := Lib.hid hyl
    have H2 := Lib.hid hyt
    have H3 := Lib.hid ho
    clear hyl hyt ho
    by_cases hlt : k < n
    · obtain ⟨x, hxk⟩ : ∃ x, xs[k]? = some x := ⟨_, List.getElem?_eq_getElem (by rw [HL.out]; exact hlt)⟩
      obtain ⟨g, o, rfl, hc⟩ := HA.out k x hxk
      have hc2 : wr.cell? ⟨g, o + k, none⟩ = some (.string x) := by rw [hbel.cell (cell_lt hc)]; exact hc
      have hgw := cell_lt hc
      obtain ⟨⟨u, hc3, _⟩, hf, _, hgl⟩ := own_cell H3.out k hlt
      have H4 := Lib.hid (own_set H3.out k (.string x))
      have H5 := Lib.hid (set_take ys k (.string x) (by rw [H1.out]; exact hlt))
      have H6 := Lib.hid (map_take xs k x hxk)
      clear hc hxk
      go_wp2
      go_roundw
      case rel => exact ⟨k + 1, _, by omega, by go_num, by rw [List.length_set]; exact H1.out, by rw [H5.out, H6.out, H2.out], H4.out, hbel.setCell (Nat.le_refl _) _⟩
      case measure => simp [intOf]; omega
    · have hkn : k = n := by omega
      subst hkn
      go_wp2
      go_ret
      exact Gives.mk' H3.out HL.out.symm (by
        have := H2.out
        rwa [List.take_of_length_le (by rw [H1.out]; omega), List.take_of_length_le (by rw [HL.out]; omega)] at this) hbel

/-- what the model's Join has built of the first k strings -/
def jk (by' : ByteArray) (xs : List ByteArray) : Nat → ByteArray
  | 0 => ByteArray.empty
  | k + 1 => (if 0 < k then jk by' xs k ++ by' else jk by' xs k) ++ xs.getD k ByteArray.empty
theorem jk_size (by' : ByteArray) (xs : List ByteArray) (hb : by'.size ≤ 1048576) : ∀ k, (jk by' xs k).size ≤ tot (xs.take k) + k * 1048576
  | 0 => by simp [jk]
  | k + 1 => by
    have ih := jk_size by' xs hb k
    have e : tot (xs.take (k + 1)) = tot (xs.take k) + (xs.getD k ByteArray.empty).size := by
      by_cases h : k < xs.length
      · rw [tot_take xs k xs[k] (List.getElem?_eq_getElem h), List.getD_eq_getElem?_getD, List.getElem?_eq_getElem h]; rfl
      · rw [List.take_of_length_le (by omega), List.take_of_length_le (by omega), List.getD_eq_getElem?_getD, List.getElem?_eq_none (by omega)]; rfl
    unfold jk
    rw [ByteArray.size_append, e]
    split
    · rw [ByteArray.size_append]; omega
    · omega
theorem jk_pos (by' : ByteArray) (xs : List ByteArray) (k : Nat) (x : ByteArray) (hx : xs[k]? = some x) (h : 0 < k) : jk by' xs (k + 1) = (jk by' xs k ++ by') ++ x := by
  rw [jk, if_pos h, List.getD_eq_getElem?_getD, hx]; rfl
theorem jk_zero (by' : ByteArray) (xs : List ByteArray) (x : ByteArray) (hx : xs[0]? = some x) : jk by' xs 1 = jk by' xs 0 ++ x := by
  show (if 0 < 0 then jk by' xs 0 ++ by' else jk by' xs 0) ++ xs.getD 0 ByteArray.empty = _
  rw [if_neg (by omega), List.getD_eq_getElem?_getD, hx]; rfl

set_option maxHeartbeats 800000 in
theorem spec_join (a : Option Addr) (n cap : Nat) (xs : List ByteArray) (by' : ByteArray) (w : World) (hl : xs.length = n) (hn : n ≤ 1048576) (hb : by'.size ≤ 1048576) (ht : tot xs ≤ 1048576) (hA : StrsAt w a xs) :
    Calls Try.prog 21 #[.slice a n cap, .string by'] w fun e w' => e = .returned (.string (jk by' xs n)) ∧ w = w' := by
  have HL := Lib.hid hl
  have HA := Lib.hid hA
  have HT := Lib.hid ht
  clear hl hA ht
  go_enter Try.func21, Try.ntmps21
  go_wp2
  go_loop [5, 6, 7, 10] (fun s _ _ i => ∃ k : Nat, k ≤ n ∧ i = .int .i64 k ∧ s = .string (jk by' xs k)) (fun _ _ _ i => n - (intOf i).toNat)
  case atStart => exact ⟨0, Nat.zero_le _, rfl, rfl⟩
  case round =>
    obtain ⟨k, hk, rfl, rfl⟩ := hrel
    have hz := jk_size by' xs hb k
    have hz2 := tot_le xs k
    have hz3 := HT.out
    have hz4 : k * 1048576 ≤ 1048576 * 1048576 := Nat.mul_le_mul_right _ (by omega)
    have hz5 : (jk by' xs k).size ≤ 1099513724928 := by omega
    clear hz hz2 hz3 hz4
    by_cases hlt : k < n
    · obtain ⟨x, hxk⟩ : ∃ x, xs[k]? = some x := ⟨_, List.getElem?_eq_getElem (by rw [HL.out]; exact hlt)⟩
      have hxs : x.size ≤ 1048576 := Nat.le_trans (tot_at xs k x hxk) HT.out
      obtain ⟨g, o, rfl, hc⟩ := HA.out k x hxk
      by_cases h0 : 0 < k
      · have HJ := Lib.hid (jk_pos by' xs k x hxk h0)
        have hz6 : (jk by' xs k ++ by').size ≤ 1099515000000 := by rw [ByteArray.size_append]; omega
        clear hxk
        generalize jk by' xs k = r at *
        go_wp2
        go_round
        case rel => exact ⟨k + 1, by omega, by go_num, by rw [HJ.out]⟩
        case measure => simp [intOf]; omega
      · have : k = 0 := by omega
        subst this
        have HJ := Lib.hid (jk_zero by' xs x hxk)
        clear hxk
        simp only [Nat.add_zero] at hc
        go_wp2
        go_round
        case rel => exact ⟨1, by omega, by go_num, by rw [HJ.out]⟩
        case measure => simp [intOf]; omega
    · have hkn : k = n := by omega
      subst hkn
      go_wp2
      go_ret
      exact ⟨rfl, rfl⟩
end Go.Proofs.Ytmmblmgeapogdaa
