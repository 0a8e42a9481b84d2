/- The contract of the program's IsName over the translation, and the walk of its law. -/
import Derived.Test.YtmmblmgeapogdaaDoorNam
namespace Go.Proofs.YtmmblmgeapogdaaDoor
open Go.RowKit

theorem decode_bad (s : ByteArray) (k : Nat) (h : k < s.size) (h8 : ¬ s[k].toNat < 128) : (122 : Int) < ((Utf8.decode s k).1 : Int) := by
  have := decode_high s k h (by omega); omega
theorem emp_no (s : ByteArray) (h : 0 < s.size) : s.toList.isEmpty = false := by rw [empty_iff]; simpa using h
theorem emp_yes (s : ByteArray) (h : s.size = 0) : s.toList.isEmpty = true := by rw [empty_iff]; simpa using h
theorem name_off (s : ByteArray) (h : s.size = 0 ∨ 8 < s.size) : nameB s = false := by
  unfold nameB
  rw [decide_eq_false (by omega : ¬ (1 ≤ s.size ∧ s.size ≤ 8))]
  simp

set_option maxHeartbeats 800000 in
theorem impl_name (s : ByteArray) (w : World) :
    Calls Tryd.prog 12 #[.string s] w fun e w' => e = .returned (.bool (nameB s)) ∧ Below w.heap.size w w' := by
  by_cases hz : s.size = 0
  · have HN := Lib.hid (name_off s (.inl hz))
    have he := emp_yes s hz
    clear hz
    go_enter Tryd.func12, Tryd.ntmps12
    go_wp2
    go_ret
    exact ⟨ret_bool HN.out.symm, Below.refl _ _⟩
  have hz1 : 0 < s.size := by omega
  have he := emp_no s hz1
  clear hz
  by_cases h8 : 8 < s.size
  · have HN := Lib.hid (name_off s (.inr h8))
    go_enter Tryd.func12, Tryd.ntmps12
    go_wp2
    go_ret
    exact ⟨ret_bool HN.out.symm, Below.refl _ _⟩
  have h9 : s.size ≤ 8 := by omega
  clear h8
  have h10 : decide (8 < s.size) = false := by simp; omega
  go_enter Tryd.func12, Tryd.ntmps12
  go_wp2
  clear he h10
  go_loopw [3, 4] (fun _ _ wr => ∃ k : Nat, k ≤ s.size ∧ wr = w.iter s k ∧ allN s k = true) (fun _ _ wr => s.size - wr.iterPos w.heap.size)
  case atStart => exact ⟨0, Nat.zero_le _, rfl, rfl⟩
  case round =>
    obtain ⟨k, hk, rfl, ha⟩ := hrel
    have HA := Lib.hid ha
    have HB : Below w.heap.size w (w.iter s k) := (Below.refl _ _).alloc (Nat.le_refl _) _
    clear ha
    by_cases hlt : k < s.size
    · by_cases h8 : s[k].toNat < 128
      · have hnx := fun ty => run_next_ascii (P := Tryd.prog) w s k ty hlt h8
        have HB2 : Below w.heap.size w (w.iter s (k + 1)) := (Below.refl _ _).alloc (Nat.le_refl _) _
        by_cases hL : isL s[k] = true
        · have HN := Lib.hid (allN_next s k hlt HA.out (by simp [okAt, hL]))
          have hb : 97 ≤ s[k].toNat ∧ s[k].toNat ≤ 122 := by simpa [isL] using hL
          obtain ⟨hb1, hb2⟩ := hb
          clear hL
          go_wp2_with (go_at_call 25; refine (isSmall_yes _ _ (by omega) (by omega)).mono ?_; rintro e w' ⟨rfl, rfl⟩)
          go_roundw
          case rel => exact ⟨k + 1, by omega, rfl, HN.out⟩
          case measure => simp; omega
        · have hL' : isL s[k] = false := by simpa using hL
          have hn : (s[k].toNat : Int) < 97 ∨ (122 : Int) < (s[k].toNat : Int) := by simp [isL] at hL'; omega
          by_cases h0 : k = 0
          · have HN := Lib.hid (name_no s k hlt (by simp only [okAt, hL']; simp [h0]))
            have h3 : ((k : Int) == 0) = true := by simp; omega
            clear hL hL' h0
            go_wp2_with (go_at_call 25; refine (isSmall_no _ _ hn).mono ?_; rintro e w' ⟨rfl, rfl⟩)
            go_ret
            exact ⟨ret_bool HN.out.symm, HB2⟩
          · have h3 : ((k : Int) == 0) = false := by simp; omega
            by_cases hD : isD s[k] = true
            · have HN := Lib.hid (allN_next s k hlt HA.out (by simp [okAt, hD, h0]))
              have hb : 48 ≤ s[k].toNat ∧ s[k].toNat ≤ 57 := by simpa [isD] using hD
              obtain ⟨hb1, hb2⟩ := hb
              clear hL hL' h0 hD
              go_wp2_with (first | (go_at_call 25; refine (isSmall_no _ _ hn).mono ?_; rintro e w' ⟨rfl, rfl⟩) | (go_at_call 26; refine (isDigit_yes _ _ (by omega) (by omega)).mono ?_; rintro e w' ⟨rfl, rfl⟩))
              go_roundw
              case rel => exact ⟨k + 1, by omega, rfl, HN.out⟩
              case measure => simp; omega
            · have hD' : isD s[k] = false := by simpa using hD
              have HN := Lib.hid (name_no s k hlt (by simp [okAt, hD', hL']))
              have hn2 : (s[k].toNat : Int) < 48 ∨ (57 : Int) < (s[k].toNat : Int) := by simp [isD] at hD'; omega
              clear hL hL' h0 hD hD'
              go_wp2_with (first | (go_at_call 25; refine (isSmall_no _ _ hn).mono ?_; rintro e w' ⟨rfl, rfl⟩) | (go_at_call 26; refine (isDigit_no _ _ hn2).mono ?_; rintro e w' ⟨rfl, rfl⟩))
              go_ret
              exact ⟨ret_bool HN.out.symm, HB2⟩
      · have HN := Lib.hid (name_no s k hlt (by simp [okAt, isL, isD]; omega))
        have hnx := fun ty => run_next_any (P := Tryd.prog) w s k ty hlt
        have hr := decode_bad s k hlt h8
        clear h8
        have HB2 : Below w.heap.size w (w.iter s (k + (Utf8.decode s k).2)) := (Below.refl _ _).alloc (Nat.le_refl _) _
        generalize (Utf8.decode s k).1 = r at hnx hr
        generalize (Utf8.decode s k).2 = r2 at hnx HB2
        by_cases h0 : k = 0
        · have h3 : ((k : Int) == 0) = true := by simp; omega
          clear h0
          go_wp2_with (go_at_call 25; refine (isSmall_no _ _ (.inr hr)).mono ?_; rintro e w' ⟨rfl, rfl⟩)
          go_ret
          exact ⟨ret_bool HN.out.symm, HB2⟩
        · have h3 : ((k : Int) == 0) = false := by simp; omega
          clear h0
          go_wp2_with (first | (go_at_call 25; refine (isSmall_no _ _ (.inr hr)).mono ?_; rintro e w' ⟨rfl, rfl⟩) | (go_at_call 26; refine (isDigit_no _ _ (.inr (by omega))).mono ?_; rintro e w' ⟨rfl, rfl⟩))
          go_ret
          exact ⟨ret_bool HN.out.symm, HB2⟩
    · have HN := Lib.hid (name_yes s k hlt hk HA.out)
      have hnx := fun ty => run_next_end (P := Tryd.prog) w s k ty hlt
      go_wp2
      go_ret
      exact ⟨ret_bool (by rw [HN.out]; exact (decide_eq_true (by omega)).symm), HB⟩

end Go.Proofs.YtmmblmgeapogdaaDoor
