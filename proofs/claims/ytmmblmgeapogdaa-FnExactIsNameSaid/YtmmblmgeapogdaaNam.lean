/- The contracts of the two IsName functions over the translation, and the walk of their law. -/
import Derived.Test.YtmmblmgeapogdaaDig
namespace Go.Proofs.Ytmmblmgeapogdaa
open Go.RowKit

/-- a byte is a small letter -/
def isL (c : UInt8) : Bool := decide (97 ≤ c.toNat ∧ c.toNat ≤ 122)
/-- a byte may stand at place k of a name -/
def okAt (k : Nat) (c : UInt8) : Bool := isL c || (!decide (k = 0) && isD c)
/-- the bytes before place k may stand where they stand -/
def allN (s : ByteArray) (k : Nat) : Bool := (List.range k).all fun i => okAt i (s.data.toList.getD i 0)
/-- a name -/
def nameB (s : ByteArray) : Bool := allN s s.size && decide (1 ≤ s.size ∧ s.size ≤ 8)

theorem getD_at (s : ByteArray) (k : Nat) (h : k < s.size) : s.data.toList.getD k 0 = s[k] := by
  have h' : k < s.data.toList.length := by simpa using h
  rw [List.getD_eq_getElem?_getD, List.getElem?_eq_getElem h']; rfl
theorem allN_next (s : ByteArray) (k : Nat) (h : k < s.size) (ha : allN s k = true) (hd : okAt k s[k] = true) : allN s (k + 1) = true := by
  unfold allN at *
  rw [List.range_succ, List.all_append, ha]
  simp only [Bool.true_and, List.all_cons, List.all_nil, Bool.and_true]
  rw [getD_at s k h, hd]
theorem name_no (s : ByteArray) (k : Nat) (h : k < s.size) (hd : okAt k s[k] = false) : nameB s = false := by
  have e : allN s s.size = false := by
    unfold allN
    rw [List.all_eq_false]
    refine ⟨k, by simpa using h, ?_⟩
    rw [getD_at s k h, hd]; simp
  unfold nameB; rw [e]; rfl
theorem name_yes (s : ByteArray) (k : Nat) (h : ¬ k < s.size) (hk : k ≤ s.size) (ha : allN s k = true) : nameB s = decide (1 ≤ s.size ∧ s.size ≤ 8) := by
  have e : k = s.size := by omega
  subst e
  unfold nameB; rw [ha]; rfl

theorem in_yes (n a b : Int) (w : World) (h1 : a ≤ n) (h2 : n ≤ b) :
    Calls Try.prog 27 #[.int .i64 n, .int .i64 a, .int .i64 b] w fun e w' => e = .returned (.bool true) ∧ w = w' := by
  go_enter Try.func27, Try.ntmps27
  go_wp2
  go_ret
  exact ⟨rfl, rfl⟩
theorem in_no (n a b : Int) (w : World) (h : n < a ∨ b < n) :
    Calls Try.prog 27 #[.int .i64 n, .int .i64 a, .int .i64 b] w fun e w' => e = .returned (.bool false) ∧ w = w' := by
  by_cases h1 : a ≤ n
  · have h2 : decide (n ≤ b) = false := by simp; omega
    clear h
    go_enter Try.func27, Try.ntmps27
    go_wp2
    go_ret
    exact ⟨rfl, rfl⟩
  · have h2 : decide (a ≤ n) = false := by simp; omega
    clear h
    go_enter Try.func27, Try.ntmps27
    go_wp2
    go_ret
    exact ⟨rfl, rfl⟩

/-- which of the five kinds a byte is -/
theorem kinds (c : Int) : c < 48 ∨ (48 ≤ c ∧ c ≤ 57) ∨ (57 < c ∧ c < 97) ∨ (97 ≤ c ∧ c ≤ 122) ∨ 122 < c := by omega

set_option maxHeartbeats 800000 in
theorem spec_name (s : ByteArray) (w : World) (hs : s.size ≤ maxLen) :
    Calls Try.prog 11 #[.string s] w fun e w' => e = .returned (.bool (nameB s)) ∧ w = w' := by
  unfold maxLen at hs
  go_enter Try.func11, Try.ntmps11
  go_wp2
  go_loop [3, 4] (fun i _ => ∃ k : Nat, k ≤ s.size ∧ i = .int .i64 k ∧ allN s k = true) (fun i _ => s.size - (intOf i).toNat)
  case atStart => exact ⟨0, Nat.zero_le _, rfl, rfl⟩
  case round =>
    obtain ⟨k, hk, rfl, ha⟩ := hrel
    have HA := Lib.hid ha
    clear ha
    by_cases hlt : k < s.size
    · rcases kinds (s[k].toNat : Int) with h1 | ⟨h1, h2⟩ | ⟨h1, h2⟩ | ⟨h1, h2⟩ | h1
      · have HN := Lib.hid (name_no s k hlt (by simp [okAt, isL, isD]; omega))
        have e1 : decide ((97 : Int) ≤ (s[k].toNat : Int)) = false := by simp; omega
        by_cases h0 : k = 0
        · subst h0
          go_wp2
          go_ret
          exact ⟨ret_bool HN.out.symm, rfl⟩
        · have h3 : ((k : Int) == 0) = false := by simp; omega
          go_wp2
          go_ret
          exact ⟨ret_bool HN.out.symm, rfl⟩
      · have e1 : decide ((97 : Int) ≤ (s[k].toNat : Int)) = false := by simp; omega
        by_cases h0 : k = 0
        · subst h0
          have HN := Lib.hid (name_no s 0 hlt (by simp [okAt, isL]; omega))
          go_wp2
          go_ret
          exact ⟨ret_bool HN.out.symm, rfl⟩
        · have HN := Lib.hid (allN_next s k hlt HA.out (by simp [okAt, isL, isD]; omega))
          have h3 : ((k : Int) == 0) = false := by simp; omega
          go_wp2
          go_round
          case rel => exact ⟨k + 1, by omega, by go_num, HN.out⟩
          case measure => simp [intOf]; omega
      · have HN := Lib.hid (name_no s k hlt (by simp [okAt, isL, isD]; omega))
        have e1 : decide ((97 : Int) ≤ (s[k].toNat : Int)) = false := by simp; omega
        by_cases h0 : k = 0
        · subst h0
          go_wp2
          go_ret
          exact ⟨ret_bool HN.out.symm, rfl⟩
        · have h3 : ((k : Int) == 0) = false := by simp; omega
          go_wp2
          go_ret
          exact ⟨ret_bool HN.out.symm, rfl⟩
      · have HN := Lib.hid (allN_next s k hlt HA.out (by simp [okAt, isL]; omega))
        go_wp2
        go_round
        case rel => exact ⟨k + 1, by omega, by go_num, HN.out⟩
        case measure => simp [intOf]; omega
      · have HN := Lib.hid (name_no s k hlt (by simp [okAt, isL, isD]; omega))
        have e1 : decide ((s[k].toNat : Int) ≤ (122 : Int)) = false := by simp; omega
        by_cases h0 : k = 0
        · subst h0
          go_wp2
          go_ret
          exact ⟨ret_bool HN.out.symm, rfl⟩
        · have h3 : ((k : Int) == 0) = false := by simp; omega
          go_wp2
          go_ret
          exact ⟨ret_bool HN.out.symm, rfl⟩
    · have HN := Lib.hid (name_yes s k hlt hk HA.out)
      by_cases h8 : 1 ≤ s.size ∧ s.size ≤ 8
      · go_wp2_with (go_at_call 27; refine (in_yes _ _ _ _ (by omega) (by omega)).mono ?_; rintro e w' ⟨rfl, rfl⟩)
        go_ret
        exact ⟨ret_bool (by rw [HN.out]; simpa using h8), rfl⟩
      · have HH := Lib.hid h8
        have h9 : (s.size : Int) < 1 ∨ 8 < (s.size : Int) := by omega
        clear h8
        go_wp2_with (go_at_call 27; refine (in_no _ _ _ _ h9).mono ?_; rintro e w' ⟨rfl, rfl⟩)
        go_ret
        exact ⟨ret_bool (by rw [HN.out]; exact (decide_eq_false HH.out).symm), rfl⟩

theorem isSmall_yes (n : Int) (w : World) (h1 : 97 ≤ n) (h2 : n ≤ 122) :
    Calls Try.prog 28 #[.int .i32 n] w fun e w' => e = .returned (.bool true) ∧ w = w' := by
  go_enter Try.func28, Try.ntmps28
  go_wp2
  go_ret
  exact ⟨rfl, rfl⟩
theorem isSmall_no (n : Int) (w : World) (h : n < 97 ∨ 122 < n) :
    Calls Try.prog 28 #[.int .i32 n] w fun e w' => e = .returned (.bool false) ∧ w = w' := by
  rcases h with h | h
  · go_enter Try.func28, Try.ntmps28
    go_wp2
    go_ret
    exact ⟨rfl, rfl⟩
  · have h1 : 97 ≤ n := by omega
    have h2 : decide (n ≤ 122) = false := by simp; omega
    go_enter Try.func28, Try.ntmps28
    go_wp2
    go_ret
    exact ⟨rfl, rfl⟩
end Go.Proofs.Ytmmblmgeapogdaa
