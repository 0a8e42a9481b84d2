/- The program's iterator over the corners of a region: the corners of a valid region, one after the other, each with its index. The program's IsCorner over the translation. -/
import Derived.RangeFuncNested
import Derived.RangeFuncBound
import Derived.RangeFuncCalls
import Derived.RangeFuncLeaves
import Derived.Shelf.Abstract
import Derived.Shelf.RegionOpen
import Derived.WalkKit
import Derived.OwnWalkIn
import Derived.TacticsInMore
import Derived.LoopNIn
import Derived.LoopIn
import Derived.Test.YtibkmhmeoelpdaaCf
namespace Go.Proofs.Ytibkmhmeoelpdaa
open Go.RowKit Go.Shelf
open Geo (H3)

attribute [local go_sem] Oper.semAt_some

/-- a corner with its index: a valid spot -/
abbrev Cnr := { x : Nat × H3 // okS x.2.a x.2.b x.2.c = true ∧ x.1 < 41 }
noncomputable def cnrF (ps : List H3) (i : Nat) : Cnr := if h : okS (crA ps i).a (crA ps i).b (crA ps i).c = true ∧ i < 41 then ⟨(i, crA ps i), h⟩ else ⟨(0, ⟨0, 0, 1⟩), by decide⟩
noncomputable def cnrL (ps : List H3) (k : Nat) : List Cnr := (List.range k).map (cnrF ps)
theorem cnrL_next (ps : List H3) (k : Nat) : cnrL ps (k + 1) = cnrL ps k ++ [cnrF ps k] := by unfold cnrL; rw [List.range_succ]; simp
theorem cnrL_len (ps : List H3) (k : Nat) : (cnrL ps k).length = k := by simp [cnrL]
theorem cnrF_of {ps : List H3} (h : rokB ps = true) (n : ps ≠ []) {i : Nat} (hi : i < ps.length) : (cnrF ps i).1 = (i, crA ps i) := by
  unfold cnrF
  rw [dif_pos ⟨(cnr_facts h n hi).1, by have := rok_len h; omega⟩]
/-- how many corners come -/
def cntC (ps : List H3) : Nat := if rokB ps = true then ps.length else 0
/-- a block in memory -/
def Blk (W : World) (B : Nat) (cs : Array Value) (t : TypeId) : Prop := W.heap[B]? = some (.cells cs t (0, 0))
theorem Blk.lt {W : World} {B : Nat} {cs : Array Value} {t : TypeId} (h : Blk W B cs t) : B < W.heap.size := lt_of_block h
theorem Blk.to {W X : World} {B : Nat} {cs : Array Value} {t : TypeId} (h : Blk W B cs t) (hb : Below W.heap.size W X) : Blk X B cs t := (hb.block B h.lt).trans h
/-- what the rounds keep -/
def KpC (n₀ Bp : Nat) (W W' : World) : Prop := Below n₀ W W' ∧ W'.heap[Bp]? = W.heap[Bp]?
theorem KpC.t {n₀ Bp : Nat} {A B C : World} (h : KpC n₀ Bp A B) (k : KpC n₀ Bp B C) : KpC n₀ Bp A C := ⟨h.1.trans k.1, k.2.trans h.2⟩
theorem KpC.b {n₀ Bp : Nat} {w : World} (h1 : n₀ ≤ w.heap.size) (h2 : Bp < w.heap.size) (W : World) (l : Nat) (o o' : Obj) (hl : w.heap.size ≤ l) (h : W.heap[l]? = some o) (hc : o.isCells = false) (hw : o.isWalk = false) : KpC n₀ Bp W (W.putObj l o') :=
  ⟨belowK_b h1 W l o o' hl h hc hw, (grownBy_putObj' W l o').block Bp (by have := (Array.getElem?_eq_some_iff.1 h).1; omega) (fun e => by cases e; omega)⟩
theorem KpC.of {n₀ Bp : Nat} {W W' : World} (h : Below W.heap.size W W') (h1 : n₀ ≤ W.heap.size) (h2 : Bp < W.heap.size) : KpC n₀ Bp W W' := ⟨h.mono h1, h.block Bp h2⟩
theorem below_grown {W W' : World} (h : Below W.heap.size W W') : W.grownBy W' none := ⟨h.os, h.tape, h.output, h.size, fun k hk _ => h.block k hk⟩
theorem abide {β : Type} {B : Nat} {J : β → World → Prop} (hJ : AbidesFrom B J) {s : β} {W W' : World} (h : J s W) (hb : Below W.heap.size W W') : J s W' := hJ s W W' none h (below_grown hb) (fun r e => by cases e)
theorem grown_keeps {W W' : World} (h : Below W.heap.size W W') : KeepsOthers W W' := ⟨h.size, fun k _ hk _ => (h.block k (lt_of_block hk)).trans hk⟩
theorem blk_own {β : Type} (B : Nat) (cs : Array Value) (t : TypeId) : Own (fun (_ : β) W => Blk W B cs t) := fun _ X Y row hs hg hrow =>
  (hg.block B hs.lt (fun e' => by obtain ⟨o, ho, hc⟩ := hrow B e'.symm; rw [show X.heap[B]? = _ from hs] at ho; cases ho; cases hc)).trans hs
theorem blk_new (W : World) (cs : Array Value) (t : TypeId) {b : Nat} (h : W.heap.size = b) : Blk (W.alloc (.cells cs t)) b cs t := by subst h; exact heap_alloc_new W _
theorem blk_far {W : World} {B : Nat} {cs : Array Value} {t : TypeId} (h : Blk W B cs t) {p : Addr} (u : Value) (hne : p.block ≠ B) : Blk (W.setCell p u) B cs t := (Below.heap_setCell W p u B (fun e => hne e.symm)).trans h
theorem blk_set {W : World} {B : Nat} {v : Value} {t : TypeId} (h : Blk W B #[v] t) (u : Value) : Blk (W.setCell ⟨B, 0, none⟩ u) B #[u] t := heap_setCell_same W B 0 _ t u h
theorem Blk.cell0 {W : World} {B : Nat} {cs : Array Value} {t : TypeId} {i : Nat} {v : Value} (h : Blk W B cs t) (k : cs[i]? = some v) : W.cell? ⟨B, i, none⟩ = some v := by
  simp [World.cell?, show W.heap[B]? = _ from h, k]
theorem Blk.free {W : World} {B : Nat} {cs : Array Value} {t : TypeId} (h : Blk W B cs t) (i : Nat) : W.frozen? ⟨B, i, none⟩ = false := frozen_of_row _ _ i _ _ h
theorem ownFrom_size {β : Type} (B N : Nat) : OwnFrom B (fun (_ : β) W => N ≤ W.heap.size) := fun _ _ _ _ hs hg _ => Nat.le_trans hs hg.size
theorem behind {w W : World} {D N : Nat} (hB : Below w.heap.size w W) (hK : W.heap[D]? = some (.deferred (some []))) (hD : N ≤ D) (hN : w.heap.size ≤ N) : Below w.heap.size w (W.putObj D (.deferred none)) := hB.trans (belowK_b (w := w) (Nat.le_refl _) W D _ _ (Nat.le_trans hN hD) hK rfl rfl)
theorem same_iff {a b c x y d : Int} : sameS a b c x y d = true ↔ (⟨a, b, c⟩ : H3) = ⟨x, y, d⟩ := by
  unfold sameS; simp [and_assoc]
/-- whether a spot is a corner -/
noncomputable def isC (ps : List H3) (x : H3) : Bool := (corR ps).any (fun y => decide (y = x))
theorem cnrF_pt {ps : List H3} {k : Nat} (h : k < cntC ps) : (cnrF ps k).1.2 = crA ps k ∧ rokB ps = true ∧ k < ps.length := by
  unfold cntC at h
  by_cases r : rokB ps = true
  · rw [if_pos r] at h
    have ne : ps ≠ [] := by rintro rfl; simp at h
    exact ⟨by rw [cnrF_of r ne h], r, h⟩
  · rw [if_neg r] at h; omega
theorem corR_mem {ps : List H3} {x : H3} : x ∈ corR ps ↔ ∃ k, k < cntC ps ∧ crA ps k = x := by
  unfold corR cntC
  split
  · unfold corL crA; simp
  · simp
theorem isC_no {ps : List H3} {x : H3} (h : ∀ c ∈ cnrL ps (cntC ps), c.1.2 ≠ x) : isC ps x = false := by
  unfold isC
  rw [List.any_eq_false]
  intro y hy
  obtain ⟨k, hk, rfl⟩ := corR_mem.1 hy
  have := h (cnrF ps k) (by unfold cnrL; simp only [List.mem_map, List.mem_range]; exact ⟨k, hk, rfl⟩)
  rw [(cnrF_pt hk).1] at this
  simpa using this
theorem isC_yes {ps : List H3} {x : H3} {m : Nat} (hm : m ≤ cntC ps) {c : Cnr} (hc : c ∈ cnrL ps m) (h : c.1.2 = x) : isC ps x = true := by
  unfold cnrL at hc
  simp only [List.mem_map, List.mem_range] at hc
  obtain ⟨k, hk, rfl⟩ := hc
  unfold isC
  rw [List.any_eq_true]
  refine ⟨x, corR_mem.2 ⟨k, by omega, ?_⟩, by simp⟩
  rw [← (cnrF_pt (ps := ps) (k := k) (by omega)).1]; exact h
end Go.Proofs.Ytibkmhmeoelpdaa
