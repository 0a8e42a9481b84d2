/- The contracts of the two IsDigits functions over the translation. -/
import Derived.Test.YtkodoedkdgldnaaProg
import Derived.WalkKit
import Derived.WalkLawsBesides
import Derived.Laws.RangeAny
import Derived.Lib.Hide
import Derived.Below
import Derived.BigQuiet
import Derived.Deep.QuietTactic
namespace Go.Proofs.Ytkodoedkdgldnaa
open Go.RowKit

/-- a byte is a decimal digit -/
def isD (c : UInt8) : Bool := decide (48 ≤ c.toNat ∧ c.toNat ≤ 57)
/-- all bytes are digits -/
def allD (l : List UInt8) : Bool := l.all isD
/-- at least one byte, all digits -/
def digs (l : List UInt8) : Bool := allD l && !l.isEmpty

theorem ret_bool {a b : Bool} (h : a = b) : Ending.returned (.bool a) = .returned (.bool b) := by rw [h]
theorem take_snoc (s : ByteArray) (k : Nat) (h : k < s.size) : s.data.toList.take (k + 1) = s.data.toList.take k ++ [s[k]] := by
  rw [List.take_succ_eq_append_getElem (by simpa using h)]; rfl
theorem split_at (s : ByteArray) (k : Nat) (h : k < s.size) : s.data.toList = s.data.toList.take k ++ s[k] :: s.data.toList.drop (k + 1) := by
  have e : s.data.toList.drop k = s[k] :: s.data.toList.drop (k + 1) := by
    rw [List.drop_eq_getElem_cons (by simpa using h)]; rfl
  rw [← e, List.take_append_drop]
theorem allD_next (s : ByteArray) (k : Nat) (h : k < s.size) (ha : allD (s.data.toList.take k) = true) (hd : isD s[k] = true) : allD (s.data.toList.take (k + 1)) = true := by
  rw [take_snoc s k h]
  unfold allD at *
  rw [List.all_append, ha]
  simp [hd]
theorem digs_no (s : ByteArray) (k : Nat) (h : k < s.size) (hd : isD s[k] = false) : digs s.data.toList = false := by
  rw [split_at s k h]
  simp [digs, allD, hd]
theorem digs_yes (s : ByteArray) (k : Nat) (h : ¬ k < s.size) (hk : k ≤ s.size) (ha : allD (s.data.toList.take k) = true) : digs s.data.toList = decide (0 < s.size) := by
  have e : k = s.size := by omega
  subst e
  have hl : s.data.toList.length = s.size := by simp
  rw [List.take_of_length_le (by omega)] at ha
  unfold digs
  rw [ha]
  cases h2 : s.data.toList with
  | nil => simp [h2] at hl; simp [← hl]
  | cons a t => simp [h2] at hl; simp; omega

theorem empty_iff (s : ByteArray) : s.toList.isEmpty = !decide (0 < s.size) := by
  rw [ByteArray.toList_eq]
  have hl : s.data.toList.length = s.size := by simp
  cases h2 : s.data.toList with
  | nil => simp [h2] at hl; simp [← hl]
  | cons a t => simp [h2] at hl; simp; omega

end Go.Proofs.Ytkodoedkdgldnaa
