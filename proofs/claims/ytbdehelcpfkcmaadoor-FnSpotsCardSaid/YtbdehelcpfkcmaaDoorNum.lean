/- Plain facts on decimal numbers: what itoa writes and what the two parsers read. -/
import Derived.Test.YtbdehelcpfkcmaaDoorFmt2
import Derived.Lib.AtoiAll
namespace Go.Proofs.YtbdehelcpfkcmaaDoor

/-- the number that digits spell behind acc -/
def dvF (acc : Nat) (l : List UInt8) : Nat := l.foldl (fun a c => a * 10 + (c.toNat - 48)) acc
theorem dvF_append (acc : Nat) (a b : List UInt8) : dvF acc (a ++ b) = dvF (dvF acc a) b := by simp [dvF, List.foldl_append]
theorem dvF_ge : ∀ (l : List UInt8) (acc : Nat), acc ≤ dvF acc l
  | [], _ => Nat.le_refl _
  | c :: r, acc => by
    have := dvF_ge r (acc * 10 + (c.toNat - 48))
    show acc ≤ dvF (acc * 10 + (c.toNat - 48)) r
    omega
theorem dvF_take (l : List UInt8) (k : Nat) : dvF 0 (l.take k) ≤ dvF 0 l := by
  have h : dvF 0 l = dvF (dvF 0 (l.take k)) (l.drop k) := by rw [← dvF_append, List.take_append_drop]
  rw [h]; exact dvF_ge _ _
theorem dec_all (m : Nat) : allD (Lib.decDigits m) = true := by
  induction m using Nat.strongRecOn with
  | ind m ih =>
    by_cases h : m < 10
    · rw [dec_small m h]
      simp [allD, isD]; omega
    · rw [dec_big m h]
      have h1 := ih (m / 10) (by omega)
      unfold allD at *
      rw [List.all_append, h1]
      simp [isD]; omega
theorem dec_val (m : Nat) : dvF 0 (Lib.decDigits m) = m := by
  induction m using Nat.strongRecOn with
  | ind m ih =>
    by_cases h : m < 10
    · rw [dec_small m h]
      simp [dvF]; omega
    · rw [dec_big m h, dvF_append, ih (m / 10) (by omega)]
      simp [dvF]; omega
theorem dec_ne (m : Nat) : Lib.decDigits m ≠ [] := by
  by_cases h : m < 10
  · rw [dec_small m h]; simp
  · rw [dec_big m h]; simp
theorem dec_head (m : Nat) (c : UInt8) (r : List UInt8) (h : Lib.decDigits m = c :: r) : 48 ≤ c.toNat ∧ c.toNat ≤ 57 := by
  have := dec_all m
  rw [h] at this
  simp [allD, isD] at this
  exact this.1
theorem dec_len19 (m : Nat) (h : m ≤ 9223372036854775808) : (Lib.decDigits m).length ≤ 19 := by
  suffices ∀ k u, u < 10 ^ k → (Lib.decDigits u).length ≤ max k 1 by simpa using this 19 m (by omega)
  intro k
  induction k with
  | zero => intro u hu; rw [dec_small u (by simp at hu; omega)]; simp
  | succ k ih =>
    intro u hu
    by_cases h : u < 10
    · rw [dec_small u h]; simp
    · rw [dec_big u h]
      have := ih (u / 10) (by rw [Nat.pow_succ] at hu; omega)
      have hk : 1 ≤ k := by
        rcases Nat.eq_zero_or_pos k with e | e
        · subst e; simp at hu; omega
        · exact e
      simp; omega

/-- the bytes are what FormatInt writes of v -/
def isNum (l : List UInt8) (v : Int) : Prop := -9223372036854775808 ≤ v ∧ v ≤ 9223372036854775807 ∧ Lib.itoa v = l

/-- with a sign -/
theorem num_neg (tl : List UInt8) (v : Int) (h : isNum (45 :: tl) v) : v = -(dvF 0 tl : Nat) ∧ digs tl = true ∧ tl.length ≤ 19 ∧ dvF 0 tl ≤ 9223372036854775808 := by
  obtain ⟨h0, h1, h2⟩ := h
  by_cases hv : v < 0
  · obtain ⟨m, rfl⟩ : ∃ m : Nat, v = -(m : Int) := ⟨v.natAbs, by omega⟩
    rw [itoa_neg m (by omega)] at h2
    obtain rfl : Lib.decDigits m = tl := by simpa using h2
    refine ⟨by rw [dec_val], ?_, dec_len19 m (by omega), by rw [dec_val]; omega⟩
    unfold digs; rw [dec_all]
    have := dec_ne m
    cases hd : Lib.decDigits m with
    | nil => exact absurd hd this
    | cons a b => rfl
  · obtain ⟨m, rfl⟩ : ∃ m : Nat, v = (m : Int) := ⟨v.toNat, by omega⟩
    rw [itoa_pos m] at h2
    have := dec_head m 45 tl h2
    simp at this
/-- without a sign -/
theorem num_pos (tl : List UInt8) (v : Int) (hs : ∀ r, tl ≠ 45 :: r) (h : isNum tl v) : v = (dvF 0 tl : Nat) ∧ digs tl = true ∧ tl.length ≤ 19 ∧ dvF 0 tl ≤ 9223372036854775807 := by
  obtain ⟨h0, h1, h2⟩ := h
  by_cases hv : v < 0
  · obtain ⟨m, rfl⟩ : ∃ m : Nat, v = -(m : Int) := ⟨v.natAbs, by omega⟩
    rw [itoa_neg m (by omega)] at h2
    exact absurd h2.symm (hs _)
  · obtain ⟨m, rfl⟩ : ∃ m : Nat, v = (m : Int) := ⟨v.toNat, by omega⟩
    rw [itoa_pos m] at h2
    subst h2
    refine ⟨by rw [dec_val], ?_, dec_len19 m (by omega), by rw [dec_val]; omega⟩
    unfold digs; rw [dec_all]
    have := dec_ne m
    cases hd : Lib.decDigits m with
    | nil => exact absurd hd this
    | cons a b => rfl

theorem parse10 : ∀ (l : List UInt8) (acc : Nat), allD l = true → dvF acc l < 18446744073709551616 → Lib.parseUint10 acc l = .ok (dvF acc l)
  | [], _, _, _ => rfl
  | c :: r, acc, hd, hv => by
    simp only [allD, List.all_cons, Bool.and_eq_true] at hd
    have hc : 48 ≤ c.toNat ∧ c.toNat ≤ 57 := by simpa [isD] using hd.1
    have hg : acc * 10 + (c.toNat - 48) ≤ dvF acc (c :: r) := dvF_ge r _
    simp only [Lib.parseUint10]
    rw [if_pos hc, if_neg (by omega), if_neg (by omega)]
    exact parse10 r _ hd.2 hv
theorem mag (m : Nat) (h : m < 18446744073709551616) : Lib.parseMag (Lib.decDigits m) = .ok m := by
  unfold Lib.parseMag
  rw [if_neg (dec_ne m), parse10 _ 0 (dec_all m) (by rw [dec_val]; exact h), dec_val]
/-- what FormatInt writes is read back -/
theorem atoi_num (l : List UInt8) (v : Int) (h : isNum l v) : Lib.atoiAll l = .ok v := by
  obtain ⟨h0, h1, rfl⟩ := h
  by_cases hv : v < 0
  · obtain ⟨m, rfl⟩ : ∃ m : Nat, v = -(m : Int) := ⟨v.natAbs, by omega⟩
    rw [itoa_neg m (by omega)]
    unfold Lib.atoiAll
    simp only [show (45 : UInt8).toNat = 45 from rfl, or_true, if_true, mag m (by omega)]
    simp; omega
  · obtain ⟨m, rfl⟩ : ∃ m : Nat, v = (m : Int) := ⟨v.toNat, by omega⟩
    rw [itoa_pos m]
    cases hd : Lib.decDigits m with
    | nil => exact absurd hd (dec_ne m)
    | cons c r =>
      have hc := dec_head m c r hd
      unfold Lib.atoiAll
      simp only
      rw [if_neg (by omega), ← hd, mag m (by omega)]
      simp only
      rw [if_neg (by omega), if_neg (by omega), if_neg (by omega)]
theorem atoi_range (l : List UInt8) (v : Int) (h : Lib.atoiAll l = .ok v) : -9223372036854775808 ≤ v ∧ v ≤ 9223372036854775807 := by
  unfold Lib.atoiAll at h
  split at h
  · cases h
  · simp only at h
    split at h
    · cases h
    · cases h
    · split at h
      · cases h
      · split at h
        · cases h
        · rename_i h1 h2
          simp only [Lib.NumEnd.ok.injEq] at h
          subst h
          split
          · rename_i h3
            have : ¬ 9223372036854775808 < _ := fun e => h2 ⟨h3, e⟩
            omega
          · rename_i h3
            have : ¬ 9223372036854775808 ≤ _ := fun e => h1 ⟨h3, e⟩
            omega
end Go.Proofs.YtbdehelcpfkcmaaDoor
