/- The contract of the program's PadZeros over the translation, and the walk of its law. -/
import Derived.Test.YtmmblmgeapogdaaPad
import Derived.Test.YtmmblmgeapogdaaShelf
import Derived.Lib.Strings
import Derived.OpenShut
namespace Go.Proofs.Ytmmblmgeapogdaa
open Go.RowKit

theorem rep_zs (j : Nat) : (⟨(Lib.repeatL (⟨#[48]⟩ : ByteArray).data.toList j).toArray⟩ : ByteArray) = zs j := by
  have := Lib.repeatL_replicate 48 1 j
  unfold zs
  simp only [Nat.mul_one] at this
  rw [← this]; rfl
theorem join_two (a b : ByteArray) : (⟨(Lib.join ([a, b].map (·.data.toList)) (ByteArray.empty : ByteArray).data.toList).toArray⟩ : ByteArray) = a ++ b := by
  apply ByteArray.ext; apply Array.ext'
  simp [Lib.join, List.intercalate]
theorem join_two_len (a b : ByteArray) : (Lib.join ([a, b].map (·.data.toList)) (ByteArray.empty : ByteArray).data.toList).length = a.size + b.size := by
  simp [Lib.join, List.intercalate]
theorem cells_two (w : World) (a b : ByteArray) : ∀ (j : Nat) x, [a, b][j]? = some x → (w.alloc (.cells #[.string a, .string b] 9)).cell? ⟨w.heap.size, 0 + j, none⟩ = some (.string x) := by
  intro j x hj
  match j, hj with
  | 0, hj => simp at hj; subst hj; simp
  | 1, hj => simp at hj; subst hj; simp

/-- joinParts: strings.Join, its operands turned round -/
theorem join_parts (bk o c : Nat) (xs : List ByteArray) (sep : ByteArray) (w : World) (hcells : ∀ (j : Nat) x, xs[j]? = some x → w.cell? ⟨bk, o + j, none⟩ = some (.string x)) (hbk : bk < w.heap.size) (hN : xs.length ≤ 140737488355328) (hcap : xs.length ≤ c) (hlen : (Lib.join (xs.map (·.data.toList)) sep.data.toList).length ≤ 140737488355328) :
    Calls Try.prog 31 #[.string sep, .slice (some ⟨bk, o, none⟩) xs.length c] w fun e w' => e = .returned (.string ⟨(Lib.join (xs.map (·.data.toList)) sep.data.toList).toArray⟩) ∧ Below w.heap.size w w' := by
  have HC := Lib.hid (Try.strings_Join bk o c xs sep w hcells hbk hN hcap hlen)
  clear hcells hbk hN hcap hlen
  generalize (⟨(Lib.join (xs.map (·.data.toList)) sep.data.toList).toArray⟩ : ByteArray) = r at *
  go_enter Try.func31, Try.ntmps31
  go_wp2_with fail
  refine HC.out.mono ?_
  rintro e w1 ⟨rfl, hb1⟩
  go_wp2
  go_ret
  exact ⟨rfl, hb1⟩
theorem join_parts2 (a b : ByteArray) (w : World) (hz : a.size + b.size ≤ 140737488355328) :
    Calls Try.prog 31 #[.string ⟨#[]⟩, .slice (some ⟨w.heap.size, 0, none⟩) 2 2] (w.alloc (.cells #[.string a, .string b] 9)) fun e w' => e = .returned (.string (a ++ b)) ∧ Below (w.heap.size + 1) (w.alloc (.cells #[.string a, .string b] 9)) w' := by
  have h := join_parts w.heap.size 0 2 [a, b] ByteArray.empty (w.alloc (.cells #[.string a, .string b] 9)) (cells_two w a b) (by simp) (by simp) (by simp) (by rw [join_two_len]; exact hz)
  rw [join_two a b] at h
  refine Calls.mono h ?_
  rintro e w' ⟨he, hb⟩
  exact ⟨he, by simpa using hb⟩

set_option maxHeartbeats 800000 in
theorem impl_pad (s : ByteArray) (n : Int) (w : World) (hs : s.size ≤ 1048576) (hn : -9223372036854775808 ≤ n) :
    Calls Try.prog 25 #[.string s, .int .i64 n] w fun e w' => e = .returned (.string (padB s n)) ∧ Below w.heap.size w w' := by
  by_cases h1 : n ≤ (s.size : Int)
  · have HE := Lib.hid (show padB s n = s by
      unfold padB; split
      · rfl
      · rw [show (n - s.size).toNat = 0 by omega, zs_zero])
    go_enter Try.func25, Try.ntmps25
    go_wp2
    go_ret
    exact ⟨ret_str HE.out.symm, Below.refl _ _⟩
  · have h1b : decide (n ≤ (s.size : Int)) = false := by simpa using h1
    by_cases h2 : 2000 < n
    · have HE := Lib.hid (show padB s n = s by unfold padB; rw [if_pos h2])
      go_enter Try.func25, Try.ntmps25
      go_wp2
      go_ret
      exact ⟨ret_str HE.out.symm, Below.refl _ _⟩
    · have h2b : decide (2000 < n) = false := by simpa using h2
      obtain ⟨c, hc⟩ : ∃ c : Nat, n - s.size = (c : Int) := ⟨(n - s.size).toNat, by omega⟩
      have HE := Lib.hid (show padB s n = zs c ++ s by unfold padB; rw [if_neg h2, hc]; rfl)
      have HR := Lib.hid (rep_zs c)
      have HC := Lib.hid hc
      have hc2 : c ≤ 2000 := by omega
      clear hc
      go_enter Try.func25, Try.ntmps25
      go_wp2_with fail
      rw [HC.out]
      refine (Try.strings_Repeat ⟨#[48]⟩ c _ (by omega) (by show 1 * c ≤ _; omega)).mono ?_
      rintro e w1 ⟨rfl, hb1⟩
      rw [HR.out]
      have hz := zs_size c
      have HZ := Lib.hid hz
      clear hz
      go_wp2_with fail
      refine (join_parts2 (zs c) s w1 (by rw [HZ.out]; omega)).mono ?_
      rintro e w2 ⟨rfl, hb2⟩
      go_wp2
      go_ret
      refine ⟨ret_str HE.out.symm, ?_⟩
      exact (hb1.alloc hb1.size _).trans (hb2.mono (by have := hb1.size; omega))

theorem str_ne (a : ByteArray) : (a.toList == a.toList) = true := by simp
set_option maxHeartbeats 400000 in
theorem law_pad (s : ByteArray) (n : Int) (_hs : s.size ≤ maxLen) (hn : (Lit.int .i64 n).wf = true) (w : World) :
    Calls Try.prog 8 #[.string s, .int .i64 n] w fun e w' => e = .returned (.bool true) ∧ Below w.heap.size w w' := by
  have hn1 := (bounds_i64 hn).1
  by_cases hb : (1048576 : Int) < (s.size : Int)
  · go_enter Try.func8, Try.ntmps8
    go_wp2
    go_ret
    exact ⟨rfl, Below.refl _ _⟩
  · have hs2 : s.size ≤ 1048576 := by omega
    clear hn
    go_enter Try.func8, Try.ntmps8
    go_wp2_with fail
    refine (spec_pad s n _ hs2 hn1).mono ?_
    rintro e w1 ⟨rfl, rfl⟩
    go_wp2_with fail
    refine (impl_pad s n _ hs2 hn1).mono ?_
    rintro e w2 ⟨rfl, hb2⟩
    generalize padB s n = r
    go_wp2
    go_ret
    exact ⟨rfl, hb2⟩
end Go.Proofs.Ytmmblmgeapogdaa
