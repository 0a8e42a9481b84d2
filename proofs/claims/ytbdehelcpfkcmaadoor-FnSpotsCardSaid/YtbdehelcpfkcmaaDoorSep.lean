/- Plain facts on texts that are split at a byte, and the contracts of strings.Cut at one byte, over the translation. -/
import Derived.Test.YtbdehelcpfkcmaaDoorPr
namespace Go.Proofs.YtbdehelcpfkcmaaDoor
open Go.RowKit

/-- a separator of one byte -/
def sep (sc : UInt8) : ByteArray := ⟨#[sc]⟩
theorem first_of (sc : UInt8) : ∀ (a a' b b' : List UInt8), sc ∉ a → sc ∉ a' → a ++ sc :: b = a' ++ sc :: b' → a = a' ∧ b = b'
  | [], [], b, b', _, _, h => ⟨rfl, by simpa using h⟩
  | [], y :: a', b, b', _, ha', h => by
    simp only [List.nil_append, List.cons_append, List.cons.injEq] at h
    exact absurd (List.mem_cons.2 (.inl h.1)) ha'
  | x :: a, [], b, b', ha, _, h => by
    simp only [List.nil_append, List.cons_append, List.cons.injEq] at h
    exact absurd (List.mem_cons.2 (.inl h.1.symm)) ha
  | x :: a, y :: a', b, b', ha, ha', h => by
    simp only [List.cons_append, List.cons.injEq] at h
    have := first_of sc a a' b b' (fun e => ha (List.mem_cons.2 (.inr e))) (fun e => ha' (List.mem_cons.2 (.inr e))) h.2
    exact ⟨by rw [h.1, this.1], this.2⟩
theorem hit_c (sc : UInt8) (c : UInt8) (h : hit (sep sc) c = true) : c = sc := by
  unfold hit sep at h
  simpa using h
theorem miss_c (sc : UInt8) (c : UInt8) (h : hit (sep sc) c = false) : c ≠ sc := by
  unfold hit sep at h
  intro e
  rw [e] at h
  simp at h
theorem sp_joinC (sc : UInt8) (s : ByteArray) : ∀ k, k ≤ s.size → (((sp s (sep sc) k).1.map (·.data.toList)).map (· ++ [sc])).flatten = s.data.toList.take (sp s (sep sc) k).2
  | 0, _ => by simp [sp]
  | k + 1, hk => by
    have ih := sp_joinC sc s k (by omega)
    have hl := (sp_len s (sep sc) k).2
    cases hh : hit (sep sc) s[k] with
    | false => rw [sp_miss s (sep sc) k (by omega) hh]; exact ih
    | true =>
      rw [sp_hit s (sep sc) k (by omega) hh]
      simp only [List.map_append, List.map_cons, List.map_nil, List.flatten_append, List.flatten_cons, List.flatten_nil, List.append_nil]
      rw [ih, Lib.extract_data, take_snoc s k (by omega), hit_c sc _ hh]
      rw [← List.append_assoc]
      congr 1
      rw [← List.take_add]
      congr 1
      omega
theorem sp_noC (sc : UInt8) (s : ByteArray) : ∀ k, k ≤ s.size → (∀ p ∈ (sp s (sep sc) k).1, sc ∉ p.data.toList) ∧ sc ∉ (s.extract (sp s (sep sc) k).2 k).data.toList
  | 0, _ => by simp [sp]
  | k + 1, hk => by
    obtain ⟨i1, i2⟩ := sp_noC sc s k (by omega)
    have hl := (sp_len s (sep sc) k).2
    cases hh : hit (sep sc) s[k] with
    | false =>
      rw [sp_miss s (sep sc) k (by omega) hh]
      refine ⟨i1, ?_⟩
      rw [Lib.extract_data] at i2 ⊢
      have e : List.take (k + 1 - (sp s (sep sc) k).2) (List.drop (sp s (sep sc) k).2 s.data.toList) = List.take (k - (sp s (sep sc) k).2) (List.drop (sp s (sep sc) k).2 s.data.toList) ++ [s[k]] := by
        have e1 : k + 1 - (sp s (sep sc) k).2 = (k - (sp s (sep sc) k).2) + 1 := by omega
        rw [e1, List.take_succ_eq_append_getElem (by simp; omega)]
        congr 1
        simp
        congr 1
        omega
      rw [e]
      simp only [List.mem_append, List.mem_singleton, not_or]
      exact ⟨i2, fun e => miss_c sc _ hh e.symm⟩
    | true =>
      rw [sp_hit s (sep sc) k (by omega) hh]
      refine ⟨?_, by simp⟩
      intro p hp
      rcases List.mem_append.1 hp with hp | hp
      · exact i1 p hp
      · rw [List.mem_singleton.1 hp]; exact i2
theorem split_c (sc : UInt8) (s : ByteArray) : (∃ p, split s (sep sc) = [p] ∧ p.data.toList = s.data.toList ∧ sc ∉ s.data.toList) ∨
    (∃ p q, split s (sep sc) = [p, q] ∧ s.data.toList = p.data.toList ++ sc :: q.data.toList ∧ sc ∉ p.data.toList) ∨
    (∃ p q r t, split s (sep sc) = p :: q :: r :: t ∧ (∃ b, s.data.toList = p.data.toList ++ sc :: (q.data.toList ++ sc :: b)) ∧ sc ∉ p.data.toList) := by
  have h1 := sp_joinC sc s s.size (Nat.le_refl _)
  obtain ⟨h2, h3⟩ := sp_noC sc s s.size (Nat.le_refl _)
  have hl := (sp_len s (sep sc) s.size).2
  have h4 : s.data.toList = s.data.toList.take (sp s (sep sc) s.size).2 ++ (s.extract (sp s (sep sc) s.size).2 s.size).data.toList := by
    rw [Lib.extract_data, List.take_of_length_le (l := List.drop _ _) (by simp), List.take_append_drop]
  rw [← h1] at h4
  unfold split
  generalize s.extract (sp s (sep sc) s.size).2 s.size = z at *
  generalize (sp s (sep sc) s.size).1 = P at *
  match P, h2, h4 with
  | [], _, h4 => exact .inl ⟨z, rfl, by simpa using h4.symm, by rw [h4]; simpa using h3⟩
  | [p], h2, h4 => exact .inr (.inl ⟨p, z, rfl, by simpa using h4, h2 p (by simp)⟩)
  | [p, q], h2, h4 => exact .inr (.inr ⟨p, q, z, [], rfl, ⟨z.data.toList, by simpa using h4⟩, h2 p (by simp)⟩)
  | p :: q :: r :: t, h2, h4 => exact .inr (.inr ⟨p, q, r, t ++ [z], rfl, ⟨_, by simpa using h4⟩, h2 p (by simp)⟩)
theorem index_noC (sc : UInt8) (l : List UInt8) (h : sc ∉ l) : Lib.indexByte l sc = -1 := by
  rcases Int.lt_or_le (Lib.indexByte l sc) 0 with h1 | h1
  · have := Lib.indexByte_ge l sc; omega
  · obtain ⟨o, ho⟩ : ∃ o : Nat, Lib.indexByte l sc = o := ⟨(Lib.indexByte l sc).toNat, by omega⟩
    exact absurd (List.mem_of_getElem? (Lib.indexByte_some ho).1) h
theorem index_yesC (sc : UInt8) : ∀ (a b : List UInt8), sc ∉ a → Lib.indexByte (a ++ sc :: b) sc = a.length
  | [], b, _ => by simp [Lib.indexByte]
  | x :: a, b, h => by
    have ih := index_yesC sc a b (fun e => h (List.mem_cons.2 (.inr e)))
    have hx : (x == sc) = false := by
      have : x ≠ sc := fun e => h (List.mem_cons.2 (.inl e.symm))
      simpa using this
    simp only [List.cons_append, Lib.indexByte, hx, ih, List.length_cons]
    simp
theorem mark_of (sc : UInt8) (l : List UInt8) (h : sc ∈ l) : ∃ a b, l = a ++ sc :: b ∧ sc ∉ a := by
  induction l with
  | nil => cases h
  | cons x l ih =>
    by_cases hx : x = sc
    · exact ⟨[], l, by rw [hx]; rfl, by simp⟩
    · obtain ⟨a, b, e, ha⟩ := ih (by
        rcases List.mem_cons.1 h with h | h
        · exact absurd h.symm hx
        · exact h)
      refine ⟨x :: a, b, by rw [e]; rfl, ?_⟩
      intro hm
      rcases List.mem_cons.1 hm with hm | hm
      · exact hx hm.symm
      · exact ha hm
theorem cutc_no0 (sc : UInt8) (s : ByteArray) (w : World) (h : sc ∉ s.data.toList) :
    Calls Tryd.prog 44 #[.string s, .string ⟨#[sc]⟩] w fun e w' => e = .returned (.tuple #[.string s, .string ⟨#[]⟩, .bool false]) ∧ ∃ k, w' = w.drewN k := by
  have HI := Lib.hid (index_noC sc _ h)
  clear h
  go_enter Tryd.func44, Tryd.ntmps44
  go_wp2_with fail
  refine (Tryd.stringslite_Index_one s sc _).mono ?_
  rw [HI.out]
  rintro e w1 ⟨rfl, rfl⟩
  go_wp2_with fail
  go_ret3
  exact ⟨rfl, 0, rfl⟩
theorem cutc_no (sc : UInt8) (s : ByteArray) (w : World) (h : sc ∉ s.data.toList) :
    Calls Tryd.prog 24 #[.string s, .string ⟨#[sc]⟩] w fun e w' => e = .returned (.tuple #[.string s, .string ⟨#[]⟩, .bool false]) ∧ ∃ k, w' = w.drewN k := by
  have HI := Lib.hid h
  clear h
  go_enter Tryd.func24, Tryd.ntmps24
  go_wp2_with fail
  refine (cutc_no0 sc s _ HI.out).mono ?_
  rintro e w1 ⟨rfl, k, rfl⟩
  go_wp2_with fail
  go_ret3
  exact ⟨rfl, k, rfl⟩
theorem ext_c (sc : UInt8) {s : ByteArray} {a b : List UInt8} (h : s.data.toList = a ++ sc :: b) : s.extract 0 a.length = str a ∧ s.extract (a.length + 1) s.size = str b ∧ s.size = a.length + 1 + b.length := by
  have hs : s.size = a.length + 1 + b.length := by
    have : s.data.toList.length = s.size := by simp
    rw [← this, h]; simp; omega
  refine ⟨?_, ?_, hs⟩
  · apply ByteArray.ext; apply Array.ext'
    rw [Lib.extract_data, h]; simp [str]
  · apply ByteArray.ext; apply Array.ext'
    rw [Lib.extract_data, h, hs]
    have : List.drop (a.length + 1) (a ++ sc :: b) = b := by
      rw [List.drop_append]; simp
    rw [this]; simp [str]
set_option maxHeartbeats 800000 in
theorem cutc_yes0 (sc : UInt8) (s : ByteArray) (a b : List UInt8) (w : World) (hsz : s.size ≤ 1048576) (h : s.data.toList = a ++ sc :: b) (ha : sc ∉ a) :
    Calls Tryd.prog 44 #[.string s, .string ⟨#[sc]⟩] w fun e w' => e = .returned (.tuple #[.string (str a), .string (str b), .bool true]) ∧ ∃ k, w' = w.drewN k := by
  have hi := index_yesC sc a b ha
  rw [← h] at hi
  have HI := Lib.hid hi
  obtain ⟨e1, e2, e3⟩ := ext_c sc h
  rw [← e1, ← e2]
  clear h hi e1 e2 ha
  generalize a.length = i at *
  have c1 : (0 : Int) ≤ (i : Int) := by omega
  have c2 : (i : Int) ≤ (s.size : Int) := by omega
  have c3 : (i : Int) + 1 ≤ (s.size : Int) := by omega
  clear e3
  go_enter Tryd.func44, Tryd.ntmps44
  go_wp2_with fail
  refine (Tryd.stringslite_Index_one s sc _).mono ?_
  rw [HI.out]
  rintro e w1 ⟨rfl, rfl⟩
  go_wp2_with fail
  go_quiet (fail)
  go_wp2_with fail
  go_ret3
  exact ⟨rfl, nq, rfl⟩
theorem cutc_yes (sc : UInt8) (s : ByteArray) (a b : List UInt8) (w : World) (hsz : s.size ≤ 1048576) (h : s.data.toList = a ++ sc :: b) (ha : sc ∉ a) :
    Calls Tryd.prog 24 #[.string s, .string ⟨#[sc]⟩] w fun e w' => e = .returned (.tuple #[.string (str a), .string (str b), .bool true]) ∧ ∃ k, w' = w.drewN k := by
  have HI := Lib.hid (cutc_yes0 sc s a b · hsz h ha)
  clear h ha
  generalize str a = x at *
  generalize str b = y at *
  go_enter Tryd.func24, Tryd.ntmps24
  go_wp2_with fail
  refine (HI.out _).mono ?_
  rintro e w1 ⟨rfl, k, rfl⟩
  go_wp2_with fail
  go_ret3
  exact ⟨rfl, k, rfl⟩
end Go.Proofs.YtbdehelcpfkcmaaDoor
