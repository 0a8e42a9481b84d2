/- The contracts of the two IsDigits functions over the translation. The contract of the model's PadZeros over the translation. The contract of the laws' markText over the translation: a text for every number, new memory alone. Slices of strings: what they read as; the contracts of the laws' eqStringS, markStringS and heldStringS over the translation. The laws' own source of numbers: the contracts of the functions that draw from a code, over the translation: what is drawn lies within its bounds, and nothing that was there is written but the source itself. The contracts of the laws' makers of numbers and texts over the translation. -/
import Derived.Test.YtibkmhmeoelpdaaGreatProg
import Derived.WalkKit
import Derived.WalkLawsBesides
import Derived.Laws.RangeAny
import Derived.Lib.Hide
import Derived.Below
import Derived.BigQuiet
import Derived.Deep.QuietTactic
import Derived.IntWalk
import Derived.Deep.RegionHeld3
namespace Go.Proofs.YtibkmhmeoelpdaaGreat
open Go.RowKit
theorem ret_bool {a b : Bool} (h : a = b) : Ending.returned (.bool a) = .returned (.bool b) := by rw [h]
/-- j zeros -/
def zs (j : Nat) : ByteArray := ⟨(List.replicate j (48 : UInt8)).toArray⟩
/-- the byte of the last digit -/
def lastD (k : Nat) : ByteArray := ⟨#[UInt8.ofNat (48 + k % 10)]⟩
/-- the digits of k ahead of acc -/
def mkGo (k : Nat) (acc : ByteArray) : ByteArray := if k = 0 then acc else mkGo (k / 10) (lastD k ++ acc)
termination_by k
decreasing_by omega
/-- what markText answers -/
def mk (k : Nat) : ByteArray := (⟨#[109]⟩ : ByteArray) ++ mkGo k ByteArray.empty

/-- the cells of a slice of strings -/
def StrsAt (w : World) (ao : Option Addr) (xs : List ByteArray) : Prop :=
  ∀ (i : Nat) x, xs[i]? = some x → ∃ g o, ao = some ⟨g, o, none⟩ ∧ w.cell? ⟨g, o + i, none⟩ = some (.string x)

theorem StrsAt.same {w w' : World} {ao : Option Addr} {xs : List ByteArray} (h : StrsAt w ao xs) (hh : w'.heap = w.heap) : StrsAt w' ao xs := by
  intro i x hx
  obtain ⟨g, o, e, hc⟩ := h i x hx
  exact ⟨g, o, e, by rw [World.cell?_of_block (w := w) (by rw [hh])]; exact hc⟩

theorem own_below {w w' : World} {B : Nat} {e : TypeId} {s : Nat} {v : Value} {n : Nat} {xs : List Value} (h : w.ownsRow B e s v n xs) (hb : Below w.heap.size w w') : w'.ownsRow B e s v n xs := by
  refine ⟨h.1, ?_⟩
  rcases h.2 with h2 | ⟨g, cap, cur, hv, hg, hh, r⟩
  · exact .inl h2
  · exact .inr ⟨g, cap, cur, hv, hg, by rw [hb.block g (lt_of_block hh)]; exact hh, r⟩
theorem own_drewN {w : World} {B : Nat} {e : TypeId} {s : Nat} {v : Value} {n : Nat} {xs : List Value} (h : w.ownsRow B e s v n xs) (q : Nat) : (w.drewN q).ownsRow B e s v n xs := h
/-- a cell of an owned row: what it holds, that it may be written -/
theorem own_cell {w : World} {B g n cap : Nat} {e : TypeId} {xs : List Value} (h : w.ownsRow B e 1 (.slice (some ⟨g, 0, none⟩) n cap) n xs) (i : Nat) (hi : i < n) :
    (∃ u, w.cell? ⟨g, i, none⟩ = some u ∧ xs[i]? = some u) ∧ w.frozen? ⟨g, i, none⟩ = false ∧ B ≤ g ∧ g < w.heap.size := by
  rcases h.2 with ⟨h2, _⟩ | ⟨g', cap', cur, hv, hg, hh, hn, _, hs, ht⟩
  · simp at h2
  · simp at hv
    obtain ⟨rfl, rfl⟩ := hv
    have hi2 : i < cur.size := by rw [hs]; omega
    refine ⟨⟨cur[i], ?_, ?_⟩, frozen_of_row w g i cur e hh, hg, lt_of_block hh⟩
    · rw [cell_of_row w g i cur e (0, 0) hh, Array.getElem?_eq_getElem hi2]
    · rw [← ht, List.getElem?_take, if_pos (by omega)]
      simp [hi2]
/-- a store into an owned row -/
theorem own_set {w : World} {B g n cap : Nat} {e : TypeId} {xs : List Value} (h : w.ownsRow B e 1 (.slice (some ⟨g, 0, none⟩) n cap) n xs) (i : Nat) (u : Value) :
    (w.setCell ⟨g, i, none⟩ u).ownsRow B e 1 (.slice (some ⟨g, 0, none⟩) n cap) n (xs.set i u) := by
  refine ⟨by rw [List.length_set]; exact h.1, ?_⟩
  rcases h.2 with ⟨h2, _⟩ | ⟨g', cap', cur, hv, hg, hh, hn, hm, hs, ht⟩
  · simp at h2
  · simp at hv
    obtain ⟨rfl, rfl⟩ := hv
    refine .inr ⟨g, cap, cur.setIfInBounds i u, rfl, hg, ?_, hn, hm, by simpa using hs, ?_⟩
    · have hlt := lt_of_block hh
      have h' : w.heap[g] = .cells cur e (0, 0) := by simpa [Array.getElem?_eq_getElem hlt] using hh
      show (w.heap.modify g _)[g]? = _
      rw [Array.getElem?_eq_getElem (by simpa using hlt), Array.getElem_modify_self, h']
      rfl
    · rw [← ht]
      simp [List.take_set]

theorem cell_lt {w : World} {g o : Nat} {u : Value} (h : w.cell? ⟨g, o, none⟩ = some u) : g < w.heap.size := by
  rcases Nat.lt_or_ge g w.heap.size with h' | h'
  · exact h'
  · simp [World.cell?, Array.getElem?_eq_none h'] at h
theorem StrsAt.below {w w' : World} {ao : Option Addr} {xs : List ByteArray} (h : StrsAt w ao xs) (hb : Below w.heap.size w w') : StrsAt w' ao xs := by
  intro i x hx
  obtain ⟨g, o, e, hc⟩ := h i x hx
  exact ⟨g, o, e, by rw [hb.cell (cell_lt hc)]; exact hc⟩
/-- the bytes of a code, wherever it lies -/
def BytesAt (w : World) (a : Option Addr) (len : Nat) : Prop :=
  ∀ j, j < len → ∃ b o x, a = some ⟨b, o, none⟩ ∧ w.cell? ⟨b, o + j, none⟩ = some (.int .u8 x) ∧ 0 ≤ x ∧ x ≤ 255
theorem BytesAt.below {w w' : World} {a : Option Addr} {len : Nat} (h : BytesAt w a len) (hb : Below w.heap.size w w') : BytesAt w' a len := by
  intro j hj
  obtain ⟨b, o, x, e, hc, h0, h1⟩ := h j hj
  exact ⟨b, o, x, e, by rw [hb.cell (cell_lt hc)]; exact hc, h0, h1⟩
/-- a source over the code at block g -/
def Cur (w : World) (g : Nat) (a : Option Addr) (len cap : Nat) : Prop :=
  ∃ i h : Int, w.heap[g]? = some (.cells #[.slice a len cap, .int .i64 i, .int .i64 h] 137 (0, 0)) ∧ 0 ≤ i ∧ i ≤ len
theorem Cur.kept {w w' : World} {g len cap : Nat} {a : Option Addr} (h : Cur w g a len cap) (hh : w'.heap[g]? = w.heap[g]?) : Cur w' g a len cap := by
  obtain ⟨i, k, h1, h2⟩ := h
  exact ⟨i, k, by rw [hh]; exact h1, h2⟩
/-- what a drawing call does to the world -/
def Drawn (g : Nat) (a : Option Addr) (len cap : Nat) (w w' : World) : Prop := w.grownBy w' (some g) ∧ Cur w' g a len cap
theorem grown_trans {w w1 w2 : World} {r : Option Nat} (h : w.grownBy w1 r) (k : w1.grownBy w2 r) : w.grownBy w2 r :=
  ⟨k.os.trans h.os, k.tape.trans h.tape, k.output.trans h.output, Nat.le_trans h.size k.size, fun j hj hr => (k.block j (Nat.lt_of_lt_of_le hj h.size) hr).trans (h.block j hj hr)⟩
/-- a code and a source over it that do not share -/
def Src (w : World) (g : Nat) (a : Option Addr) (len cap : Nat) : Prop := Cur w g a len cap ∧ len ≤ 1048576 ∧ BytesAt w a len ∧ ∀ b o, 0 < len → a = some ⟨b, o, none⟩ → b ≠ g
theorem Src.alloc {w : World} {g len cap : Nat} {a : Option Addr} (h : Src w g a len cap) (o : Obj) : Src (w.alloc o) g a len cap := by
  obtain ⟨⟨i, k, h1, h2⟩, hl, hb, hn⟩ := h
  refine ⟨⟨i, k, by rw [Below.heap_alloc w o g (lt_of_block h1)]; exact h1, h2⟩, hl, ?_, hn⟩
  exact hb.below ((Below.refl _ w).alloc (Nat.le_refl _) _)
theorem Drawn.trans {w w1 w2 : World} {g len cap : Nat} {a : Option Addr} (h : Drawn g a len cap w w1) (k : Drawn g a len cap w1 w2) : Drawn g a len cap w w2 := ⟨grown_trans h.1 k.1, k.2⟩
end Go.Proofs.YtibkmhmeoelpdaaGreat
