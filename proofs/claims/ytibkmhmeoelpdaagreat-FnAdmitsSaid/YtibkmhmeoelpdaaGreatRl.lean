/- Slices of triples of numbers in memory. The contracts of the laws' helpers on slices of half planes over the translation. The contracts of the laws' helpers on regions over the translation. A slice of triples that came in, and a struct that holds one: what a law's walk is told of it. -/
import Derived.Test.YtibkmhmeoelpdaaGreatHq
import Derived.Test.YtibkmhmeoelpdaaGreatGa
import Derived.ProofKit
import Derived.OpenShut
import Derived.Deep.Slices
import Derived.Deep.Fields
import Derived.Lib.SmallJoins
namespace Go.Proofs.YtibkmhmeoelpdaaGreat
open Go.RowKit
open Geo (H3)
open Go.ChangeShapes Go.WideShapes Go.ChangeAt Go.RowKit Go.Deep

/-- a triple at a place -/
def Tri (w : World) (g o : Nat) (a b c : Value) : Prop := w.cell? ⟨g, o, none⟩ = some a ∧ w.cell? ⟨g, o + 1, none⟩ = some b ∧ w.cell? ⟨g, o + 2, none⟩ = some c
theorem Tri.to {V X : World} {g o : Nat} {a b c : Value} (p : Tri V g o a b c) (hb : Below V.heap.size V X) : Tri X g o a b c :=
  ⟨by rw [hb.cell (block_lt_of_cell p.1)]; exact p.1, by rw [hb.cell (block_lt_of_cell p.2.1)]; exact p.2.1, by rw [hb.cell (block_lt_of_cell p.2.2)]; exact p.2.2⟩
theorem Tri.six {V X : World} {g o h u : Nat} {a b c x y d : Value} (hb : Below V.heap.size V X) (p : Tri V g o a b c) (q : Tri V h u x y d) :
    X.cell? ⟨g, o, none⟩ = some a ∧ X.cell? ⟨g, o + 1, none⟩ = some b ∧ X.cell? ⟨g, o + 2, none⟩ = some c ∧ X.cell? ⟨h, u, none⟩ = some x ∧ X.cell? ⟨h, u + 1, none⟩ = some y ∧ X.cell? ⟨h, u + 2, none⟩ = some d :=
  ⟨(p.to hb).1, (p.to hb).2.1, (p.to hb).2.2, q.to hb⟩
/-- the cells of a slice of triples -/
def HsAt (w : World) (ao : Option Addr) (hs : List H3) : Prop :=
  ∀ (i : Nat) h, hs[i]? = some h → ∃ g o, ao = some ⟨g, o, none⟩ ∧ Tri w g (o + i * 3) (.int .i64 h.a) (.int .i64 h.b) (.int .i64 h.c)
theorem HsAt.below {w w' : World} {ao : Option Addr} {hs : List H3} (h : HsAt w ao hs) (hb : Below w.heap.size w w') : HsAt w' ao hs := by
  intro i x hx
  obtain ⟨g, o, e, hc⟩ := h i x hx
  exact ⟨g, o, e, hc.to hb⟩
/-- the cells of triples -/
def trip (h : H3) : List Value := [.int .i64 h.a, .int .i64 h.b, .int .i64 h.c]
def flat (hs : List H3) : List Value := hs.flatMap trip
theorem flat_len (hs : List H3) : (flat hs).length = hs.length * 3 := by
  induction hs with
  | nil => rfl
  | cons h hs ih => simp only [flat, List.flatMap_cons, List.length_append, trip, List.length_cons, List.length_nil] at ih ⊢; omega
theorem flat_cons (h : H3) (hs : List H3) : flat (h :: hs) = .int .i64 h.a :: .int .i64 h.b :: .int .i64 h.c :: flat hs := rfl
theorem flat_app (hs ks : List H3) : flat (hs ++ ks) = flat hs ++ flat ks := by simp [flat]
theorem flat_take (hs : List H3) (k : Nat) : flat (hs.take k) = (flat hs).take (k * 3) := by
  induction hs generalizing k with
  | nil => simp [flat]
  | cons h hs ih =>
    cases k with
    | zero => simp [flat]
    | succ k => rw [List.take_succ_cons, flat_cons, flat_cons, ih, show (k + 1) * 3 = k * 3 + 1 + 1 + 1 by omega, List.take_succ_cons, List.take_succ_cons, List.take_succ_cons]
theorem flat_at {hs : List H3} {i : Nat} {h : H3} (k : hs[i]? = some h) : (flat hs)[i * 3]? = some (.int .i64 h.a) ∧ (flat hs)[i * 3 + 1]? = some (.int .i64 h.b) ∧ (flat hs)[i * 3 + 2]? = some (.int .i64 h.c) := by
  induction hs generalizing i with
  | nil => simp at k
  | cons x hs ih =>
    rw [flat_cons]
    cases i with
    | zero => simp at k; subst k; simp
    | succ i =>
      rw [List.getElem?_cons_succ] at k
      have := ih k
      rw [show (i + 1) * 3 = i * 3 + 1 + 1 + 1 by omega]
      simpa using this
theorem flat_set (hs : List H3) (i : Nat) (h : H3) : flat (hs.set i h) = (((flat hs).set (i * 3) (.int .i64 h.a)).set (i * 3 + 1) (.int .i64 h.b)).set (i * 3 + 2) (.int .i64 h.c) := by
  induction hs generalizing i with
  | nil => simp [flat]
  | cons x hs ih =>
    cases i with
    | zero => simp [flat_cons]
    | succ i =>
      rw [List.set_cons_succ, flat_cons, flat_cons, ih, show (i + 1) * 3 = i * 3 + 1 + 1 + 1 by omega]
      simp
theorem addr_add (g o i : Nat) : (⟨g, o, none⟩ : Addr).add i = ⟨g, o + i, none⟩ := by unfold Addr.add; split <;> simp_all
/-- what owning a row of triples says -/
theorem own3_view {w : World} {B n : Nat} {e : TypeId} {v : Value} {hs : List H3} (h : w.ownsRow B e 3 v n (flat hs)) :
    hs.length = n ∧ ∃ ao cap, v = .slice ao n cap ∧ HsAt w ao hs := by
  have hl : hs.length = n := by have := h.1; rw [flat_len] at this; omega
  refine ⟨hl, ?_⟩
  rcases h.2 with ⟨rfl, rfl⟩ | ⟨g, cap, cur, rfl, _⟩
  · refine ⟨none, 0, rfl, ?_⟩
    intro i x hx
    simp [List.length_eq_zero_iff.1 hl] at hx
  · refine ⟨some ⟨g, 0, none⟩, cap, rfl, ?_⟩
    intro i x hx
    obtain ⟨f1, f2, f3⟩ := flat_at hx
    refine ⟨g, 0, rfl, ?_, ?_, ?_⟩
    · have := h.cells (g := g) rfl _ _ f1; rw [addr_add] at this; simpa using this
    · have := h.cells (g := g) rfl _ _ f2; rw [addr_add] at this; simpa [Nat.add_assoc] using this
    · have := h.cells (g := g) rfl _ _ f3; rw [addr_add] at this; simpa [Nat.add_assoc] using this
theorem own3_none {w : World} {B : Nat} {e : TypeId} : w.ownsRow B e 3 (.slice none 0 0) 0 (flat []) := ⟨by simp [flat], .inl ⟨rfl, rfl⟩⟩
/-- a cell of an owned row may be written -/
theorem own_free {w : World} {B g n cap s : Nat} {e : TypeId} {xs : List Value} (h : w.ownsRow B e s (.slice (some ⟨g, 0, none⟩) n cap) n xs) (i : Nat) : w.frozen? ⟨g, i, none⟩ = false ∧ B ≤ g ∧ g < w.heap.size := by
  rcases h.2 with ⟨h2, _⟩ | ⟨g', cap', cur, hv, hg, hh, hn, _, hs, ht⟩
  · simp at h2
  · simp at hv
    obtain ⟨rfl, rfl⟩ := hv
    exact ⟨frozen_of_row w g i cur e hh, hg, lt_of_block hh⟩
theorem own_put {w : World} {B g n cap s : Nat} {e : TypeId} {xs : List Value} (h : w.ownsRow B e s (.slice (some ⟨g, 0, none⟩) n cap) n xs) (i : Nat) (u : Value) :
    (w.setCell ⟨g, i, none⟩ u).ownsRow B e s (.slice (some ⟨g, 0, none⟩) n cap) n (xs.set i u) := by
  refine ⟨by rw [List.length_set]; exact h.1, ?_⟩
  rcases h.2 with ⟨h2, _⟩ | ⟨g', cap', cur, hv, hg, hh, hn, hm, hs, ht⟩
  · simp at h2
  · simp at hv
    obtain ⟨rfl, rfl⟩ := hv
    refine .inr ⟨g, cap, cur.setIfInBounds i u, rfl, hg, ?_, hn, hm, by simpa using hs, ?_⟩
    · have hlt := lt_of_block hh
      have h' : w.heap[g] = .cells cur e (0, 0) := by simpa [Array.getElem?_eq_getElem hlt] using hh
      show (w.heap.modify g _)[g]? = _
      rw [Array.getElem?_eq_getElem (by simpa using hlt), Array.getElem_modify_self, h']
      rfl
    · rw [← ht]
      simp [List.take_set]
theorem own3_put {w : World} {B g n cap : Nat} {e : TypeId} {hs : List H3} (h : w.ownsRow B e 3 (.slice (some ⟨g, 0, none⟩) n cap) n (flat hs)) (i : Nat) (x : H3) :
    (((w.setCell ⟨g, i * 3, none⟩ (.int .i64 x.a)).setCell ⟨g, i * 3 + 1, none⟩ (.int .i64 x.b)).setCell ⟨g, i * 3 + 2, none⟩ (.int .i64 x.c)).ownsRow B e 3 (.slice (some ⟨g, 0, none⟩) n cap) n (flat (hs.set i x)) := by
  rw [flat_set]
  exact own_put (own_put (own_put h _ _) _ _) _ _
theorem own_row {w : World} {B n s : Nat} {e : TypeId} {v : Value} {xs : List Value} (h : w.ownsRow B e s v n xs) (hn : 0 < n) : ∃ g cap, v = .slice (some ⟨g, 0, none⟩) n cap := by
  rcases h.2 with ⟨_, h3⟩ | ⟨g, cap, cur, hv, _⟩
  · omega
  · exact ⟨g, cap, hv⟩
theorem own_slice {w : World} {B n s : Nat} {e : TypeId} {v : Value} {xs : List Value} (h : w.ownsRow B e s v n xs) : ∃ ao cap, v = .slice ao n cap := by
  rcases h.2 with ⟨rfl, rfl⟩ | ⟨g, cap, cur, hv, _⟩
  · exact ⟨none, 0, rfl⟩
  · exact ⟨_, cap, hv⟩
/-- an element of an owned row: what it holds, that it may be written -/
theorem own3_at {w : World} {B g n cap : Nat} {e : TypeId} {hs : List H3} (h : w.ownsRow B e 3 (.slice (some ⟨g, 0, none⟩) n cap) n (flat hs)) {i : Nat} (hi : i < n) :
    ∃ x, hs[i]? = some x ∧ w.cell? ⟨g, i * 3, none⟩ = some (.int .i64 x.a) ∧ w.cell? ⟨g, i * 3 + 1, none⟩ = some (.int .i64 x.b) ∧ w.cell? ⟨g, i * 3 + 2, none⟩ = some (.int .i64 x.c) ∧
      w.frozen? ⟨g, i * 3, none⟩ = false ∧ w.frozen? ⟨g, i * 3 + 1, none⟩ = false ∧ w.frozen? ⟨g, i * 3 + 2, none⟩ = false ∧ B ≤ g ∧ g < w.heap.size := by
  obtain ⟨hl, ao, cap', e, hat⟩ := own3_view h
  simp only [Value.slice.injEq, true_and] at e
  obtain ⟨rfl, rfl⟩ := e
  obtain ⟨x, hx⟩ : ∃ x, hs[i]? = some x := ⟨_, List.getElem?_eq_getElem (by rw [hl]; exact hi)⟩
  obtain ⟨g', o', e, t1, t2, t3⟩ := hat i x hx
  simp only [Option.some.injEq, Addr.mk.injEq, and_true] at e
  obtain ⟨rfl, rfl⟩ := e
  rw [Nat.zero_add] at t1 t2 t3
  exact ⟨x, hx, t1, t2, t3, (own_free h _).1, (own_free h _).1, (own_free h _).1, (own_free h 0).2.1, (own_free h 0).2.2⟩

/-- writing into an owned row changes nothing below it -/
theorem below_row {w w' : World} {B g o : Nat} (h : Below B w w') (hg : B ≤ g) (u : Value) : Below B w (w'.setCell ⟨g, o, none⟩ u) := h.setCell hg u
theorem Tryz.info34 : (Tryz.prog.info? 104).map (fun i => (i.zero, i.size, i.bytes)) = some (some (.agg #[.int .i64 0, .int .i64 0, .int .i64 0]), 3, 24) := by kernel_rfl
def zeroH : H3 := ⟨0, 0, 0⟩
theorem below_one (w : World) (o : Obj) : Below w.heap.size w (w.alloc o) := (Below.refl _ _).alloc (Nat.le_refl _) _
theorem bcellr {W w1 : World} (hb : Below W.heap.size W w1) : (∀ b o, b < W.heap.size → w1.cell? ⟨b, o, none⟩ = W.cell? ⟨b, o, none⟩) ∧ (∀ b o, b < W.heap.size → w1.frozen? ⟨b, o, none⟩ = W.frozen? ⟨b, o, none⟩) :=
  ⟨fun b o h => hb.cell (p := ⟨b, o, none⟩) h, fun b o h => hb.frozen (p := ⟨b, o, none⟩) h⟩
theorem own_base {w : World} {B B' n s : Nat} {e : TypeId} {v : Value} {xs : List Value} (h : w.ownsRow B e s v n xs) (hB : B' ≤ B) : w.ownsRow B' e s v n xs := by
  refine ⟨h.1, ?_⟩
  rcases h.2 with h2 | ⟨g, cap, cur, hv, hg, r⟩
  · exact .inl h2
  · exact .inr ⟨g, cap, cur, hv, by omega, r⟩
theorem own_far {w : World} {B n s : Nat} {e : TypeId} {v : Value} {xs : List Value} (h : w.ownsRow B e s v n xs) {p : Addr} (hp : p.block < B) (u : Value) : (w.setCell p u).ownsRow B e s v n xs := by
  refine ⟨h.1, ?_⟩
  rcases h.2 with h2 | ⟨g, cap, cur, hv, hg, hh, r⟩
  · exact .inl h2
  · exact .inr ⟨g, cap, cur, hv, hg, (Below.heap_setCell w p u g (by omega)).trans hh, r⟩
/-- three numbers of 64 bits -/
def In64 (h : H3) : Prop := (-9223372036854775808 ≤ h.a ∧ h.a ≤ 9223372036854775807) ∧ (-9223372036854775808 ≤ h.b ∧ h.b ≤ 9223372036854775807) ∧ (-9223372036854775808 ≤ h.c ∧ h.c ≤ 9223372036854775807)
end Go.Proofs.YtibkmhmeoelpdaaGreat
