/- The contracts of slices.Grow (of nil) and of slices.Concat (of two rows that are not empty) at half planes, over the translation. What MeetRegions and CutRegion answer, and the contracts of the program's functions over the translation. The contracts of the model's MeetRegions over the translation. The contract of the model's MeetRegions over the translation. Marks that begin at any number, and the walk of the law of MeetRegions. -/
import Derived.Test.YtibkmhmeoelpdaaGreatWm
import Derived.Lib.AppendZerosOnto
import Derived.Lib.Walk
import Derived.Lib.SliceRun
namespace Go.Proofs.YtibkmhmeoelpdaaGreat
open Go.RowKit
open Geo (H3)
theorem rok_reg {hs : List H3} (h : rokB hs = true) (n : hs ≠ []) : regL hs = hs := by
  unfold rokB at h
  rw [Bool.or_eq_true, decide_eq_true_eq, Bool.and_eq_true] at h
  rcases h with h | ⟨h, k⟩
  · exact absurd h n
  · unfold sameB regE at k
    rw [if_pos h] at k
    simpa using (by simpa using k : hs = regL hs).symm
theorem rok_len {hs : List H3} (h : rokB hs = true) : hs.length ≤ 40 := by
  unfold rokB at h
  rw [Bool.or_eq_true, decide_eq_true_eq, Bool.and_eq_true] at h
  rcases h with rfl | ⟨h, _⟩
  · simp
  · unfold okF at h
    simp only [Bool.and_eq_true, decide_eq_true_eq] at h
    exact h.1.1
theorem rok_allB {hs : List H3} (h : rokB hs = true) : hs.all okB = true := List.all_eq_true.2 (rok_all h)
theorem in64_app {hs ks : List H3} (a : ∀ h ∈ hs, In64 h) (b : ∀ h ∈ ks, In64 h) : ∀ h ∈ hs ++ ks, In64 h := by
  intro x hx
  rcases List.mem_append.1 hx with h | h
  · exact a x h
  · exact b x h
/-- a new region and a bool are handed back -/
def AnsR (w : World) (L : List H3) (b : Bool) (e : Ending) (w' : World) : Prop := ∃ ao cp, e = .returned (.tuple #[.agg #[.slice ao L.length cp], .bool b]) ∧ w'.ownsRow w.heap.size 104 3 (.slice ao L.length cp) L.length (flat L) ∧ Below w.heap.size w w'
theorem AnsR.no {w w' : World} {L : List H3} {b c : Bool} (h : L = []) (k : b = c) (hb : Below w.heap.size w w') : AnsR w L b (.returned (.tuple #[.agg #[.slice none 0 0], .bool c])) w' := by
  subst h; subst k
  exact ⟨none, 0, rfl, own3_none, hb⟩
theorem AnsR.yes {w w' : World} {L M : List H3} {b c : Bool} {ao : Option Addr} {m cp : Nat} (h : M = L) (k : b = c) (ho : w'.ownsRow w.heap.size 104 3 (.slice ao m cp) m (flat M)) (hb : Below w.heap.size w w') : AnsR w L b (.returned (.tuple #[.agg #[.slice ao m cp], .bool c])) w' := by
  subst h; subst k
  obtain rfl := (own3_view ho).1
  exact ⟨ao, cp, rfl, ho, hb⟩
theorem len_ne {hs : List H3} {n : Nat} (hl : hs.length = n) (h : n ≠ 0) : hs ≠ [] := by rintro rfl; simp at hl; omega
theorem len_nil {hs : List H3} {n : Nat} (hl : hs.length = n) (h : n = 0) : hs = [] := List.eq_nil_of_length_eq_zero (by omega)
theorem box_one {U : World} {b : Nat} (h : U.heap.size = b) (v : Value) (T : TypeId) : (U.alloc (.cells #[v] T)).cell? ⟨b, 0, none⟩ = some v ∧ (U.alloc (.cells #[v] T)).frozen? ⟨b, 0, none⟩ = false := by
  subst h
  exact ⟨cell_of_row _ _ 0 _ _ _ (heap_alloc_new U _), frozen_of_row _ _ 0 _ _ (heap_alloc_new U _)⟩
theorem MakW.no {w w' : World} {L : List H3} (h : L = []) (hb : Below w.heap.size w w') : MakW w L (.returned (.agg #[.slice none 0 0])) w' := by
  subst h; exact ⟨none, 0, rfl, own3_none, hb⟩
theorem MakW.yes {w w' : World} {L M : List H3} {ao : Option Addr} {m cp : Nat} (h : M = L) (ho : w'.ownsRow w.heap.size 104 3 (.slice ao m cp) m (flat M)) (hb : Below w.heap.size w w') : MakW w L (.returned (.agg #[.slice ao m cp])) w' := by
  subst h; exact MakW.of ho hb
end Go.Proofs.YtibkmhmeoelpdaaGreat
