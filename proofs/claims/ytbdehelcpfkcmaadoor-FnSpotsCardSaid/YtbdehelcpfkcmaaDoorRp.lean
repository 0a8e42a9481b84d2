/- Plain facts on the texts of fractions: which texts there are, that a text has one fraction, and how a text is split at the slash. -/
import Derived.Test.YtbdehelcpfkcmaaDoorFr
import Derived.Test.YtbdehelcpfkcmaaDoorPar
import Derived.Test.YtbdehelcpfkcmaaDoorSplit
import Derived.Lib.IndexLaws
namespace Go.Proofs.YtbdehelcpfkcmaaDoor
open Go.RowKit

theorem no47_dec (m : Nat) : (47 : UInt8) ∉ Lib.decDigits m := by
  intro h
  have h1 := dec_all m
  unfold allD at h1
  rw [List.all_eq_true] at h1
  have := h1 _ h
  simp [isD] at this
theorem no47 (n : Int) : (47 : UInt8) ∉ Lib.itoa n := by
  by_cases hv : n < 0
  · obtain ⟨m, rfl⟩ : ∃ m : Nat, n = -(m : Int) := ⟨n.natAbs, by omega⟩
    rw [itoa_neg m (by omega)]
    intro h
    rcases List.mem_cons.1 h with h | h
    · exact absurd h (by decide)
    · exact no47_dec m h
  · obtain ⟨m, rfl⟩ : ∃ m : Nat, n = (m : Int) := ⟨n.toNat, by omega⟩
    rw [itoa_pos m]; exact no47_dec m
theorem itoa_ne (n : Int) : Lib.itoa n ≠ [] := by
  by_cases hv : n < 0
  · obtain ⟨m, rfl⟩ : ∃ m : Nat, n = -(m : Int) := ⟨n.natAbs, by omega⟩
    rw [itoa_neg m (by omega)]; simp
  · obtain ⟨m, rfl⟩ : ∃ m : Nat, n = (m : Int) := ⟨n.toNat, by omega⟩
    rw [itoa_pos m]; exact dec_ne m
theorem split_first : ∀ (a a' b b' : List UInt8), 47 ∉ a → 47 ∉ a' → a ++ 47 :: b = a' ++ 47 :: b' → a = a' ∧ b = b'
  | [], [], b, b', _, _, h => ⟨rfl, by simpa using h⟩
  | [], y :: a', b, b', _, ha', h => by
    simp only [List.nil_append, List.cons_append, List.cons.injEq] at h
    exact absurd (List.mem_cons.2 (.inl h.1)) ha'
  | x :: a, [], b, b', ha, _, h => by
    simp only [List.nil_append, List.cons_append, List.cons.injEq] at h
    exact absurd (List.mem_cons.2 (.inl h.1.symm)) ha
  | x :: a, y :: a', b, b', ha, ha', h => by
    simp only [List.cons_append, List.cons.injEq] at h
    have := split_first a a' b b' (fun e => ha (List.mem_cons.2 (.inr e))) (fun e => ha' (List.mem_cons.2 (.inr e))) h.2
    exact ⟨by rw [h.1, this.1], this.2⟩

/-- the bytes are what FormatRatio writes of n / d -/
def isRat (l : List UInt8) (n d : Int) : Prop := okR n d = true ∧ fmtR n d = l
theorem rat_plain {l : List UInt8} {n d : Int} (h : isRat l n d) (hl : (47 : UInt8) ∉ l) : d = 1 ∧ isNum l n := by
  obtain ⟨h1, h2⟩ := h
  obtain ⟨q1, q2, q3, q4, _⟩ := (okR_iff _ _).1 h1
  by_cases hd : d = 1
  · rw [fmtR_one h1 hd] at h2
    exact ⟨hd, by omega, by omega, h2⟩
  · rw [fmtR_two h1 hd] at h2
    rw [← h2] at hl
    exact absurd (by simp) hl
theorem rat_slash {a b : List UInt8} {n d : Int} (h : isRat (a ++ 47 :: b) n d) (ha : (47 : UInt8) ∉ a) : d ≠ 1 ∧ isNum a n ∧ isNum b d := by
  obtain ⟨h1, h2⟩ := h
  obtain ⟨q1, q2, q3, q4, _⟩ := (okR_iff _ _).1 h1
  by_cases hd : d = 1
  · rw [fmtR_one h1 hd] at h2
    have := no47 n
    rw [h2] at this
    exact absurd (by simp) this
  · rw [fmtR_two h1 hd] at h2
    obtain ⟨e1, e2⟩ := split_first _ _ _ _ (no47 n) ha h2
    exact ⟨hd, ⟨by omega, by omega, e1⟩, by omega, by omega, e2⟩
/-- what ParseRatio must answer: the fraction and true, or the zero value and false -/
def RAns (l : List UInt8) (N D : Int) (b : Bool) : Prop := (b = true ∧ isRat l N D) ∨ (b = false ∧ N = 0 ∧ D = 0 ∧ ∀ n d, ¬ isRat l n d)
theorem RAns.ex (l : List UInt8) : ∃ N D b, RAns l N D b := by
  by_cases h : ∃ n d, isRat l n d
  · obtain ⟨n, d, h⟩ := h
    exact ⟨n, d, true, .inl ⟨rfl, h⟩⟩
  · exact ⟨0, 0, false, .inr ⟨rfl, rfl, rfl, fun n d hh => h ⟨n, d, hh⟩⟩⟩
theorem RAns.no {l : List UInt8} {N D : Int} {b : Bool} (h : RAns l N D b) (hn : ∀ n d, ¬ isRat l n d) : N = 0 ∧ D = 0 ∧ b = false := by
  rcases h with ⟨_, h⟩ | ⟨h1, h2, h3, _⟩
  · exact absurd h (hn _ _)
  · exact ⟨h2, h3, h1⟩
/-- where n / d is the one fraction that the text may be of, the test of its text decides -/
theorem RAns.yes {l : List UInt8} {N D n d : Int} {b : Bool} (h : RAns l N D b) (hl : l ≠ []) (hu : ∀ n' d', isRat l n' d' → n' = n ∧ d' = d) (ht : fmtR n d = l) : N = n ∧ D = d ∧ b = true ∧ okR n d = true := by
  have ho : okR n d = true := by
    cases e : okR n d with
    | true => rfl
    | false => rw [fmtR_no e] at ht; exact absurd ht.symm hl
  rcases h with ⟨h1, h⟩ | ⟨_, _, _, h⟩
  · obtain ⟨e1, e2⟩ := hu _ _ h
    exact ⟨e1, e2, h1, ho⟩
  · exact absurd ⟨ho, ht⟩ (h n d)
theorem RAns.not {l : List UInt8} {N D n d : Int} {b : Bool} (h : RAns l N D b) (hu : ∀ n' d', isRat l n' d' → n' = n ∧ d' = d) (ht : ¬ fmtR n d = l) : N = 0 ∧ D = 0 ∧ b = false :=
  h.no fun n' d' hh => by
    obtain ⟨rfl, rfl⟩ := hu _ _ hh
    exact ht hh.2
/-- the one candidate: without a slash, and with one -/
theorem one_plain {l : List UInt8} {n : Int} (hl : (47 : UInt8) ∉ l) (hn : isNum l n) : ∀ n' d', isRat l n' d' → n' = n ∧ d' = 1 := by
  intro n' d' h
  obtain ⟨h1, h2⟩ := rat_plain h hl
  exact ⟨h2.uniq hn, h1⟩
theorem one_slash {a b : List UInt8} {n d : Int} (ha : (47 : UInt8) ∉ a) (hn : isNum a n) (hd : isNum b d) : ∀ n' d', isRat (a ++ 47 :: b) n' d' → n' = n ∧ d' = d := by
  intro n' d' h
  obtain ⟨_, h1, h2⟩ := rat_slash h ha
  exact ⟨h1.uniq hn, h2.uniq hd⟩

/-- the slash -/
def sl1 : ByteArray := ⟨#[47]⟩
theorem hit_sl (c : UInt8) (h : hit sl1 c = true) : c = 47 := by
  unfold hit sl1 at h
  simpa using h
theorem miss_sl (c : UInt8) (h : hit sl1 c = false) : c ≠ 47 := by
  unfold hit sl1 at h
  intro e
  rw [e] at h
  simp at h
theorem sp_joinS (s : ByteArray) : ∀ k, k ≤ s.size → (((sp s sl1 k).1.map (·.data.toList)).map (· ++ [47])).flatten = s.data.toList.take (sp s sl1 k).2
  | 0, _ => by simp [sp]
  | k + 1, hk => by
    have ih := sp_joinS s k (by omega)
    have hl := (sp_len s sl1 k).2
    cases hh : hit sl1 s[k] with
    | false => rw [sp_miss s sl1 k (by omega) hh]; exact ih
    | true =>
      rw [sp_hit s sl1 k (by omega) hh]
      simp only [List.map_append, List.map_cons, List.map_nil, List.flatten_append, List.flatten_cons, List.flatten_nil, List.append_nil]
      rw [ih, Lib.extract_data, take_snoc s k (by omega), hit_sl _ hh]
      rw [← List.append_assoc]
      congr 1
      rw [← List.take_add]
      congr 1
      omega
theorem sp_noS (s : ByteArray) : ∀ k, k ≤ s.size → (∀ p ∈ (sp s sl1 k).1, (47 : UInt8) ∉ p.data.toList) ∧ (47 : UInt8) ∉ (s.extract (sp s sl1 k).2 k).data.toList
  | 0, _ => by simp [sp]
  | k + 1, hk => by
    obtain ⟨i1, i2⟩ := sp_noS s k (by omega)
    have hl := (sp_len s sl1 k).2
    cases hh : hit sl1 s[k] with
    | false =>
      rw [sp_miss s sl1 k (by omega) hh]
      refine ⟨i1, ?_⟩
      rw [Lib.extract_data] at i2 ⊢
      have e : List.take (k + 1 - (sp s sl1 k).2) (List.drop (sp s sl1 k).2 s.data.toList) = List.take (k - (sp s sl1 k).2) (List.drop (sp s sl1 k).2 s.data.toList) ++ [s[k]] := by
        have e1 : k + 1 - (sp s sl1 k).2 = (k - (sp s sl1 k).2) + 1 := by omega
        rw [e1, List.take_succ_eq_append_getElem (by simp; omega)]
        congr 1
        simp
        congr 1
        omega
      rw [e]
      simp only [List.mem_append, List.mem_singleton, not_or]
      exact ⟨i2, fun e => miss_sl _ hh e.symm⟩
    | true =>
      rw [sp_hit s sl1 k (by omega) hh]
      refine ⟨?_, by simp⟩
      intro p hp
      rcases List.mem_append.1 hp with hp | hp
      · exact i1 p hp
      · rw [List.mem_singleton.1 hp]; exact i2
theorem split_cases (s : ByteArray) : (∃ p, split s sl1 = [p] ∧ p.data.toList = s.data.toList ∧ (47 : UInt8) ∉ s.data.toList) ∨
    (∃ p q, split s sl1 = [p, q] ∧ s.data.toList = p.data.toList ++ 47 :: q.data.toList ∧ (47 : UInt8) ∉ p.data.toList) ∨
    (∃ p q r t, split s sl1 = p :: q :: r :: t ∧ (∃ b, s.data.toList = p.data.toList ++ 47 :: (q.data.toList ++ 47 :: b)) ∧ (47 : UInt8) ∉ p.data.toList) := by
  have h1 := sp_joinS s s.size (Nat.le_refl _)
  obtain ⟨h2, h3⟩ := sp_noS s s.size (Nat.le_refl _)
  have hl := (sp_len s sl1 s.size).2
  have h4 : s.data.toList = s.data.toList.take (sp s sl1 s.size).2 ++ (s.extract (sp s sl1 s.size).2 s.size).data.toList := by
    rw [Lib.extract_data, List.take_of_length_le (l := List.drop _ _) (by simp), List.take_append_drop]
  rw [← h1] at h4
  unfold split
  generalize s.extract (sp s sl1 s.size).2 s.size = z at *
  generalize (sp s sl1 s.size).1 = P at *
  match P, h2, h4 with
  | [], _, h4 => exact .inl ⟨z, rfl, by simpa using h4.symm, by rw [h4]; simpa using h3⟩
  | [p], h2, h4 => exact .inr (.inl ⟨p, z, rfl, by simpa using h4, h2 p (by simp)⟩)
  | [p, q], h2, h4 => exact .inr (.inr ⟨p, q, z, [], rfl, ⟨z.data.toList, by simpa using h4⟩, h2 p (by simp)⟩)
  | p :: q :: r :: t, h2, h4 => exact .inr (.inr ⟨p, q, r, t ++ [z], rfl, ⟨_, by simpa using h4⟩, h2 p (by simp)⟩)
theorem no_rat3 {p q b : List UInt8} (hp : (47 : UInt8) ∉ p) : ∀ n d, ¬ isRat (p ++ 47 :: (q ++ 47 :: b)) n d := by
  intro n d h
  obtain ⟨_, _, _, _, h3⟩ := rat_slash h hp
  have := no47 d
  rw [h3] at this
  exact this (by simp)

theorem index_no (l : List UInt8) (h : (47 : UInt8) ∉ l) : Lib.indexByte l 47 = -1 := by
  rcases Int.lt_or_le (Lib.indexByte l 47) 0 with h1 | h1
  · have := Lib.indexByte_ge l 47; omega
  · obtain ⟨o, ho⟩ : ∃ o : Nat, Lib.indexByte l 47 = o := ⟨(Lib.indexByte l 47).toNat, by omega⟩
    exact absurd (List.mem_of_getElem? (Lib.indexByte_some ho).1) h
theorem index_yes : ∀ (a b : List UInt8), (47 : UInt8) ∉ a → Lib.indexByte (a ++ 47 :: b) 47 = a.length
  | [], b, _ => by simp [Lib.indexByte]
  | x :: a, b, h => by
    have ih := index_yes a b (fun e => h (List.mem_cons.2 (.inr e)))
    have hx : (x == 47) = false := by
      have : x ≠ 47 := fun e => h (List.mem_cons.2 (.inl e.symm))
      simpa using this
    simp only [List.cons_append, Lib.indexByte, hx, ih, List.length_cons]
    simp
theorem slash_of (l : List UInt8) (h : (47 : UInt8) ∈ l) : ∃ a b, l = a ++ 47 :: b ∧ (47 : UInt8) ∉ a := by
  induction l with
  | nil => cases h
  | cons x l ih =>
    by_cases hx : x = 47
    · exact ⟨[], l, by rw [hx]; rfl, by simp⟩
    · obtain ⟨a, b, e, ha⟩ := ih (by
        rcases List.mem_cons.1 h with h | h
        · exact absurd h.symm hx
        · exact h)
      refine ⟨x :: a, b, by rw [e]; rfl, ?_⟩
      intro hm
      rcases List.mem_cons.1 hm with hm | hm
      · exact hx hm.symm
      · exact ha hm
end Go.Proofs.YtbdehelcpfkcmaaDoor
