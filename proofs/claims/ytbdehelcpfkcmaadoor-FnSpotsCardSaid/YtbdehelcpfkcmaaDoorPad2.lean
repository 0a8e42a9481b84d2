/- The contract of the program's PadZeros over the translation, and the walk of its law. -/
import Derived.Test.YtbdehelcpfkcmaaDoorPad
import Derived.Test.YtbdehelcpfkcmaaDoorShelf
import Derived.Lib.Strings
import Derived.Lib.Repeat
import Derived.Lib.Join
import Derived.OpenShut
namespace Go.Proofs.YtbdehelcpfkcmaaDoor
open Go.RowKit

theorem rep_zs (j : Nat) : (⟨(Lib.repeatL (⟨#[48]⟩ : ByteArray).data.toList j).toArray⟩ : ByteArray) = zs j := by
  have := Lib.repeatL_replicate 48 1 j
  unfold zs
  simp only [Nat.mul_one] at this
  rw [← this]; rfl
theorem join_two (a b : ByteArray) : (⟨(Lib.join ([a, b].map (·.data.toList)) (ByteArray.empty : ByteArray).data.toList).toArray⟩ : ByteArray) = a ++ b := by
  apply ByteArray.ext; apply Array.ext'
  simp [Lib.join, List.intercalate]
theorem join_two_len (a b : ByteArray) : (Lib.join ([a, b].map (·.data.toList)) (ByteArray.empty : ByteArray).data.toList).length = a.size + b.size := by
  simp [Lib.join, List.intercalate]
theorem cells_two (w : World) (a b : ByteArray) : ∀ (j : Nat) x, [a, b][j]? = some x → (w.alloc (.cells #[.string a, .string b] 9)).cell? ⟨w.heap.size, 0 + j, none⟩ = some (.string x) := by
  intro j x hj
  match j, hj with
  | 0, hj => simp at hj; subst hj; simp
  | 1, hj => simp at hj; subst hj; simp

/-- joinParts: strings.Join, its operands turned round -/
theorem join_parts (bk o c : Nat) (xs : List ByteArray) (sep : ByteArray) (w : World) (hcells : ∀ (j : Nat) x, xs[j]? = some x → w.cell? ⟨bk, o + j, none⟩ = some (.string x)) (hbk : bk < w.heap.size) (hN : xs.length ≤ 140737488355328) (hcap : xs.length ≤ c) (hlen : (Lib.join (xs.map (·.data.toList)) sep.data.toList).length ≤ 140737488355328) :
    Calls Tryd.prog 27 #[.string sep, .slice (some ⟨bk, o, none⟩) xs.length c] w fun e w' => e = .returned (.string ⟨(Lib.join (xs.map (·.data.toList)) sep.data.toList).toArray⟩) ∧ Below w.heap.size w w' := by
  have HC := Lib.hid (Tryd.strings_Join bk o c xs sep w hcells hbk hN hcap hlen)
  clear hcells hbk hN hcap hlen
  generalize (⟨(Lib.join (xs.map (·.data.toList)) sep.data.toList).toArray⟩ : ByteArray) = r at *
  go_enter Tryd.func27, Tryd.ntmps27
  go_wp2_with fail
  refine HC.out.mono ?_
  rintro e w1 ⟨rfl, hb1⟩
  go_wp2
  go_ret
  exact ⟨rfl, hb1⟩
theorem join_parts2 (a b : ByteArray) (w : World) (hz : a.size + b.size ≤ 140737488355328) :
    Calls Tryd.prog 27 #[.string ⟨#[]⟩, .slice (some ⟨w.heap.size, 0, none⟩) 2 2] (w.alloc (.cells #[.string a, .string b] 9)) fun e w' => e = .returned (.string (a ++ b)) ∧ Below (w.heap.size + 1) (w.alloc (.cells #[.string a, .string b] 9)) w' := by
  have h := join_parts w.heap.size 0 2 [a, b] ByteArray.empty (w.alloc (.cells #[.string a, .string b] 9)) (cells_two w a b) (by simp) (by simp) (by simp) (by rw [join_two_len]; exact hz)
  rw [join_two a b] at h
  refine Calls.mono h ?_
  rintro e w' ⟨he, hb⟩
  exact ⟨he, by simpa using hb⟩

theorem str_ne (a : ByteArray) : (a.toList == a.toList) = true := by simp
end Go.Proofs.YtbdehelcpfkcmaaDoor
