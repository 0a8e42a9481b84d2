/- The program's IsCorner over the translation. -/
import Derived.Test.YtefafkainfhhkaaCi
namespace Go.Proofs.Ytefafkainfhhkaa
open Go.RowKit Go.Shelf
open Geo (H3)
attribute [local go_sem] Oper.semAt_some

theorem blk_own {β : Type} (B : Nat) (cs : Array Value) (t : TypeId) : Own (fun (_ : β) W => Blk W B cs t) := fun _ X Y row hs hg hrow =>
  (hg.block B hs.lt (fun e' => by obtain ⟨o, ho, hc⟩ := hrow B e'.symm; rw [show X.heap[B]? = _ from hs] at ho; cases ho; cases hc)).trans hs
theorem blk_new (W : World) (cs : Array Value) (t : TypeId) {b : Nat} (h : W.heap.size = b) : Blk (W.alloc (.cells cs t)) b cs t := by subst h; exact heap_alloc_new W _
theorem blk_far {W : World} {B : Nat} {cs : Array Value} {t : TypeId} (h : Blk W B cs t) {p : Addr} (u : Value) (hne : p.block ≠ B) : Blk (W.setCell p u) B cs t := (Below.heap_setCell W p u B (fun e => hne e.symm)).trans h
theorem blk_set {W : World} {B : Nat} {v : Value} {t : TypeId} (h : Blk W B #[v] t) (u : Value) : Blk (W.setCell ⟨B, 0, none⟩ u) B #[u] t := heap_setCell_same W B 0 _ t u h
theorem Blk.cell0 {W : World} {B : Nat} {cs : Array Value} {t : TypeId} {i : Nat} {v : Value} (h : Blk W B cs t) (k : cs[i]? = some v) : W.cell? ⟨B, i, none⟩ = some v := by
  simp [World.cell?, show W.heap[B]? = _ from h, k]
theorem Blk.free {W : World} {B : Nat} {cs : Array Value} {t : TypeId} (h : Blk W B cs t) (i : Nat) : W.frozen? ⟨B, i, none⟩ = false := frozen_of_row _ _ i _ _ h
theorem ownFrom_size {β : Type} (B N : Nat) : OwnFrom B (fun (_ : β) W => N ≤ W.heap.size) := fun _ _ _ _ hs hg _ => Nat.le_trans hs hg.size
theorem behind {w W : World} {D N : Nat} (hB : Below w.heap.size w W) (hK : W.heap[D]? = some (.deferred (some []))) (hD : N ≤ D) (hN : w.heap.size ≤ N) : Below w.heap.size w (W.putObj D (.deferred none)) := hB.trans (belowK_b (w := w) (Nat.le_refl _) W D _ _ (Nat.le_trans hN hD) hK rfl rfl)
theorem same_iff {a b c x y d : Int} : sameS a b c x y d = true ↔ (⟨a, b, c⟩ : H3) = ⟨x, y, d⟩ := by
  unfold sameS; simp [and_assoc]
/-- whether a spot is a corner -/
noncomputable def isC (ps : List H3) (x : H3) : Bool := (corR ps).any (fun y => decide (y = x))
theorem cnrF_pt {ps : List H3} {k : Nat} (h : k < cntC ps) : (cnrF ps k).1.2 = crA ps k ∧ rokB ps = true ∧ k < ps.length := by
  unfold cntC at h
  by_cases r : rokB ps = true
  · rw [if_pos r] at h
    have ne : ps ≠ [] := by rintro rfl; simp at h
    exact ⟨by rw [cnrF_of r ne h], r, h⟩
  · rw [if_neg r] at h; omega
theorem corR_mem {ps : List H3} {x : H3} : x ∈ corR ps ↔ ∃ k, k < cntC ps ∧ crA ps k = x := by
  unfold corR cntC
  split
  · unfold corL crA; simp
  · simp
theorem isC_no {ps : List H3} {x : H3} (h : ∀ c ∈ cnrL ps (cntC ps), c.1.2 ≠ x) : isC ps x = false := by
  unfold isC
  rw [List.any_eq_false]
  intro y hy
  obtain ⟨k, hk, rfl⟩ := corR_mem.1 hy
  have := h (cnrF ps k) (by unfold cnrL; simp only [List.mem_map, List.mem_range]; exact ⟨k, hk, rfl⟩)
  rw [(cnrF_pt hk).1] at this
  simpa using this
theorem isC_yes {ps : List H3} {x : H3} {m : Nat} (hm : m ≤ cntC ps) {c : Cnr} (hc : c ∈ cnrL ps m) (h : c.1.2 = x) : isC ps x = true := by
  unfold cnrL at hc
  simp only [List.mem_map, List.mem_range] at hc
  obtain ⟨k, hk, rfl⟩ := hc
  unfold isC
  rw [List.any_eq_true]
  refine ⟨x, corR_mem.2 ⟨k, by omega, ?_⟩, by simp⟩
  rw [← (cnrF_pt (ps := ps) (k := k) (by omega)).1]; exact h
end Go.Proofs.Ytefafkainfhhkaa
