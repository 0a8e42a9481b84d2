/- The contract of the model's PadZeros over the translation. -/
import Derived.Test.YtkodoedkdgldnaaDig
namespace Go.Proofs.Ytkodoedkdgldnaa
open Go.RowKit

/-- j zeros -/
def zs (j : Nat) : ByteArray := ⟨(List.replicate j (48 : UInt8)).toArray⟩
theorem zs_size (j : Nat) : (zs j).size = j := by simp [zs, ByteArray.size]
theorem zs_zero (s : ByteArray) : zs 0 ++ s = s := by
  apply ByteArray.ext; simp [zs]
theorem zs_step (j : Nat) (s : ByteArray) : (⟨#[48]⟩ : ByteArray) ++ (zs j ++ s) = zs (j + 1) ++ s := by
  apply ByteArray.ext; apply Array.ext'; simp [zs, List.replicate_succ]
theorem zs_len (j : Nat) (s : ByteArray) : (zs j ++ s).size = j + s.size := by simp [ByteArray.size_append, zs_size]
/-- what PadZeros answers -/
def padB (s : ByteArray) (n : Int) : ByteArray := if 2000 < n then s else zs (n - s.size).toNat ++ s
def szOf : Value → Nat | .string t => t.size | _ => 0

theorem ret_str {a b : ByteArray} (h : a = b) : Ending.returned (.string a) = .returned (.string b) := by rw [h]
end Go.Proofs.Ytkodoedkdgldnaa
