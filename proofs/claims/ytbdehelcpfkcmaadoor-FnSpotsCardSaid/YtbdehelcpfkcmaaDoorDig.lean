/- The contracts of the two IsDigits functions over the translation. -/
import Derived.Test.YtbdehelcpfkcmaaDoorProg
import Derived.WalkKit
import Derived.WalkLawsBesides
import Derived.Laws.RangeAny
import Derived.Lib.Hide
import Derived.Below
import Derived.BigQuiet
import Derived.Deep.QuietTactic
namespace Go.Proofs.YtbdehelcpfkcmaaDoor
open Go.RowKit

/-- a byte is a decimal digit -/
def isD (c : UInt8) : Bool := decide (48 ≤ c.toNat ∧ c.toNat ≤ 57)
/-- all bytes are digits -/
def allD (l : List UInt8) : Bool := l.all isD
/-- at least one byte, all digits -/
def digs (l : List UInt8) : Bool := allD l && !l.isEmpty

theorem ret_bool {a b : Bool} (h : a = b) : Ending.returned (.bool a) = .returned (.bool b) := by rw [h]
theorem take_snoc (s : ByteArray) (k : Nat) (h : k < s.size) : s.data.toList.take (k + 1) = s.data.toList.take k ++ [s[k]] := by
  rw [List.take_succ_eq_append_getElem (by simpa using h)]; rfl
theorem split_at (s : ByteArray) (k : Nat) (h : k < s.size) : s.data.toList = s.data.toList.take k ++ s[k] :: s.data.toList.drop (k + 1) := by
  have e : s.data.toList.drop k = s[k] :: s.data.toList.drop (k + 1) := by
    rw [List.drop_eq_getElem_cons (by simpa using h)]; rfl
  rw [← e, List.take_append_drop]
theorem allD_next (s : ByteArray) (k : Nat) (h : k < s.size) (ha : allD (s.data.toList.take k) = true) (hd : isD s[k] = true) : allD (s.data.toList.take (k + 1)) = true := by
  rw [take_snoc s k h]
  unfold allD at *
  rw [List.all_append, ha]
  simp [hd]
theorem digs_no (s : ByteArray) (k : Nat) (h : k < s.size) (hd : isD s[k] = false) : digs s.data.toList = false := by
  rw [split_at s k h]
  simp [digs, allD, hd]
theorem digs_yes (s : ByteArray) (k : Nat) (h : ¬ k < s.size) (hk : k ≤ s.size) (ha : allD (s.data.toList.take k) = true) : digs s.data.toList = decide (0 < s.size) := by
  have e : k = s.size := by omega
  subst e
  have hl : s.data.toList.length = s.size := by simp
  rw [List.take_of_length_le (by omega)] at ha
  unfold digs
  rw [ha]
  cases h2 : s.data.toList with
  | nil => simp [h2] at hl; simp [← hl]
  | cons a t => simp [h2] at hl; simp; omega

set_option maxHeartbeats 400000 in
theorem spec_digits (s : ByteArray) (w : World) (hs : s.size ≤ maxLen) :
    Calls Tryd.prog 59 #[.string s] w fun e w' => e = .returned (.bool (digs s.data.toList)) ∧ w = w' := by
  unfold maxLen at hs
  go_enter Tryd.func59, Tryd.ntmps59
  go_wp2
  go_loop [3] (fun i => ∃ k : Nat, k ≤ s.size ∧ i = .int .i64 k ∧ allD (s.data.toList.take k) = true) (fun i => s.size - (intOf i).toNat)
  case atStart => exact ⟨0, Nat.zero_le _, rfl, rfl⟩
  case round =>
    obtain ⟨k, hk, rfl, ha⟩ := hrel
    have HA := Lib.hid ha
    clear ha
    by_cases hlt : k < s.size
    · by_cases h1 : (s[k].toNat : Int) < 48
      · have HN := Lib.hid (digs_no s k hlt (by simp [isD]; omega))
        go_wp2
        go_ret
        exact ⟨ret_bool HN.out.symm, rfl⟩
      · by_cases h2 : (57 : Int) < (s[k].toNat : Int)
        · have HN := Lib.hid (digs_no s k hlt (by simp [isD]; omega))
          go_wp2
          go_ret
          exact ⟨ret_bool HN.out.symm, rfl⟩
        · have HN := Lib.hid (allD_next s k hlt HA.out (by simp [isD]; omega))
          go_wp2
          go_round
          case rel => exact ⟨k + 1, by omega, by go_num, HN.out⟩
          case measure => simp [intOf]; omega
    · have HN := Lib.hid (digs_yes s k hlt hk HA.out)
      go_wp2
      go_ret
      exact ⟨ret_bool (by rw [HN.out]), rfl⟩

theorem empty_iff (s : ByteArray) : s.toList.isEmpty = !decide (0 < s.size) := by
  rw [ByteArray.toList_eq]
  have hl : s.data.toList.length = s.size := by simp
  cases h2 : s.data.toList with
  | nil => simp [h2] at hl; simp [← hl]
  | cons a t => simp [h2] at hl; simp; omega

end Go.Proofs.YtbdehelcpfkcmaaDoor
