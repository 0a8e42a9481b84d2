/- What SplitAny answers, as a function on bytes; the contract of the model's SplitAny over the translation. -/
import Derived.Test.YtmmblmgeapogdaaDoorStrs
import Derived.OwnWalk
import Derived.Deep.DeepCutAuto
namespace Go.Proofs.YtmmblmgeapogdaaDoor
open Go.RowKit

/-- the byte occurs in by -/
def hit (by' : ByteArray) (c : UInt8) : Bool := by'.data.toList.contains c
/-- the parts that are complete before place k, and where the open one begins -/
def sp (s by' : ByteArray) : Nat → List ByteArray × Nat
  | 0 => ([], 0)
  | k + 1 => if hit by' (s.data.toList.getD k 0) then ((sp s by' k).1 ++ [s.extract (sp s by' k).2 k], k + 1) else sp s by' k
/-- the parts -/
def split (s by' : ByteArray) : List ByteArray := (sp s by' s.size).1 ++ [s.extract (sp s by' s.size).2 s.size]

theorem sp_len (s by' : ByteArray) : ∀ k, (sp s by' k).1.length ≤ k ∧ (sp s by' k).2 ≤ k
  | 0 => by simp [sp]
  | k + 1 => by
    have := sp_len s by' k
    unfold sp
    split
    · simp; omega
    · omega
theorem sp_hit (s by' : ByteArray) (k : Nat) (h : k < s.size) (hh : hit by' s[k] = true) : sp s by' (k + 1) = ((sp s by' k).1 ++ [s.extract (sp s by' k).2 k], k + 1) := by
  have e : s.data.toList.getD k 0 = s[k] := by
    have h' : k < s.data.toList.length := by simpa using h
    rw [List.getD_eq_getElem?_getD, List.getElem?_eq_getElem h']; rfl
  rw [sp, e, if_pos hh]
theorem sp_miss (s by' : ByteArray) (k : Nat) (h : k < s.size) (hh : hit by' s[k] = false) : sp s by' (k + 1) = sp s by' k := by
  have e : s.data.toList.getD k 0 = s[k] := by
    have h' : k < s.data.toList.length := by simpa using h
    rw [List.getD_eq_getElem?_getD, List.getElem?_eq_getElem h']; rfl
  rw [sp, e, if_neg (by simp [hh])]

/-- where a byte that occurs in by occurs first -/
theorem hit_first (by' : ByteArray) (c : UInt8) (h : hit by' c = true) : ∃ j, ∃ hj : j < by'.size, by'[j] = c ∧ ∀ i (hi : i < by'.size), i < j → by'[i] ≠ c := by
  unfold hit at h
  rw [List.contains_iff_mem] at h
  have hlen : by'.data.toList.length = by'.size := by simp
  have hex : ∃ j, ∃ hj : j < by'.size, by'[j] = c := by
    obtain ⟨j, hj, e⟩ := List.getElem_of_mem h
    exact ⟨j, by omega, by rw [← e]; rfl⟩
  suffices ∀ n, (∃ j, ∃ hj : j < by'.size, by'[j] = c ∧ j ≤ n) → ∃ j, ∃ hj : j < by'.size, by'[j] = c ∧ ∀ i (hi : i < by'.size), i < j → by'[i] ≠ c by
    obtain ⟨j, hj, e⟩ := hex
    exact this j ⟨j, hj, e, Nat.le_refl _⟩
  intro n
  induction n with
  | zero =>
    rintro ⟨j, hj, e, hle⟩
    exact ⟨j, hj, e, fun i _ hij => by omega⟩
  | succ n ih =>
    rintro ⟨j, hj, e, hle⟩
    by_cases hb : ∃ i, ∃ hi : i < by'.size, by'[i] = c ∧ i ≤ n
    · exact ih hb
    · refine ⟨j, hj, e, fun i hi hij he => hb ⟨i, hi, he, by omega⟩⟩
theorem miss_all (by' : ByteArray) (c : UInt8) (h : hit by' c = false) : ∀ i (hi : i < by'.size), by'[i] ≠ c := by
  intro i hi he
  have : hit by' c = true := by
    unfold hit
    rw [List.contains_iff_mem, ← he]
    exact List.getElem_mem (by simpa using hi : i < by'.data.toList.length)
  rw [h] at this
  cases this
theorem byte_ne (a b : UInt8) (h : a ≠ b) : ((a.toNat : Int) == (b.toNat : Int)) = false := by
  have : a.toNat ≠ b.toNat := fun e => h (UInt8.toNat_inj.1 e)
  simp; omega
theorem byte_eq (a b : UInt8) (h : a = b) : ((a.toNat : Int) == (b.toNat : Int)) = true := by rw [h]; simp

theorem Tryd.info9 : (Tryd.prog.info? 9).map (fun i => (i.zero, i.size, i.bytes)) = some (some (.string ByteArray.empty), 1, 16) := by kernel_rfl

theorem cell_new1 (w : World) (x : Value) (t : TypeId) : ∀ j u, [x][j]? = some u → (w.alloc (.cells #[x] t)).cell? ((⟨w.heap.size, 0, none⟩ : Addr).add j) = some u := by
  intro j u hj
  match j, hj with
  | 0, hj => simp at hj; subst hj; simp [Addr.add]
/-- the call hands back a slice of its own that reads as xs -/
def Gives (w : World) (xs : List ByteArray) (e : Ending) (w' : World) : Prop := ∃ v, e = .returned v ∧ w'.ownsRow w.heap.size 9 1 v xs.length (xs.map Value.string) ∧ Below w.heap.size w w'
theorem Gives.mk' {w w' : World} {xs : List ByteArray} {v : Value} {n : Nat} {ys : List Value} (h : w'.ownsRow w.heap.size 9 1 v n ys) (hn : n = xs.length) (hy : ys = xs.map Value.string) (hb : Below w.heap.size w w') : Gives w xs (.returned v) w' := by
  subst hn; subst hy; exact ⟨v, rfl, h, hb⟩

end Go.Proofs.YtmmblmgeapogdaaDoor
