/- The program's farthestIn over the translation: the first corner that is farthest in a direction, and its value. SupportOf and FarthestCorner of the program and of the model over the translation. -/
import Derived.Test.YtibkmhmeoelpdaaCg
import Derived.Test.YtibkmhmeoelpdaaCf
import Derived.Test.YtibkmhmeoelpdaaCv
namespace Go.Proofs.Ytibkmhmeoelpdaa
open Go.RowKit Go.Shelf
open Geo (H3)
open Go.RowKit

attribute [local go_sem] Oper.semAt_some

theorem blk_ownf {β : Type} (B : Nat) (f : β → Array Value) (t : TypeId) : Own (fun (s : β) W => Blk W B (f s) t) := fun s X Y row hs hg hrow => blk_own (β := β) B (f s) t s X Y row hs hg hrow
def farP (A B : Int) (s : Int × Int × Int) (x : Cnr) : Int × Int × Int := if s.1 < 0 ∨ 0 < cmpO (vaN A B x.1.2) (vaD A B x.1.2) s.2.1 s.2.2 then ((x.1.1 : Int), vaN A B x.1.2, vaD A B x.1.2) else s
def farC (A B : Int) (pre : List Cnr) : Int × Int × Int := pre.foldl (farP A B) (-1, 0, 0)
theorem farC_next (A B : Int) (pre : List Cnr) (x : Cnr) : farC A B (pre ++ [x]) = farP A B (farC A B pre) x := by simp [farC]
theorem farC_S (A B : Int) (ps : List H3) (k : Nat) (h : k ≤ cntC ps) : farC A B (cnrL ps k) = farS A B ps k := by
  induction k with
  | zero => rfl
  | succ k ih =>
    rw [cnrL_next, farC_next, ih (by omega)]
    obtain ⟨e, r, l⟩ := cnrF_pt (ps := ps) (k := k) (by omega)
    have ne : ps ≠ [] := by rintro rfl; simp at l
    have e1 : (cnrF ps k).1.1 = k := by rw [cnrF_of r ne l]
    unfold farP
    rw [e, e1]
    rfl
theorem blk_set2 {W : World} {B : Nat} {u v : Value} {t : TypeId} (h : Blk W B #[u, v] t) (x y : Value) : Blk ((W.setCell ⟨B, 0, none⟩ x).setCell ⟨B, 1, none⟩ y) B #[x, y] t :=
  heap_setCell_same _ B 1 _ t y (heap_setCell_same W B 0 _ t x h)
/-- what comes is within bounds -/
def FarI (s : Int × Int × Int) : Prop := (-1 ≤ s.1 ∧ s.1 < 41) ∧ (-500000000000000000 ≤ s.2.1 ∧ s.2.1 ≤ 500000000000000000) ∧ 0 ≤ s.2.2 ∧ s.2.2 ≤ 5000000000
theorem farI_zero : FarI (-1, 0, 0) := by unfold FarI; simp
theorem farI_next {A B : Int} (hA : In5 A) (hB : In5 B) {s : Int × Int × Int} (h : FarI s) (x : Cnr) : FarI (farP A B s x) := by
  unfold farP
  split
  · obtain ⟨_, _, _, q1, q2, q3, q4⟩ := va_facts hA hB x.2.1
    have := x.2.2
    exact ⟨⟨by simp only; omega, by simp only; omega⟩, ⟨q3, q4⟩, by simp only; omega, q2⟩
  · exact h
def supB (A B : Int) (ps : List H3) : Bool := rokB ps && decide (ps ≠ []) && inB A (-50000) 50000 && inB B (-50000) 50000
noncomputable def supR (A B : Int) (ps : List H3) : Int × Int × Int := if supB A B ps = true then farS A B ps ps.length else (0, 0, 0)
theorem sup_no1 {A B : Int} {ps : List H3} (h : inB A (-50000) 50000 = false) : supB A B ps = false ∧ supR A B ps = (0, 0, 0) := by
  have : supB A B ps = false := by unfold supB; rw [h]; simp
  exact ⟨this, by unfold supR; rw [this]; rfl⟩
theorem sup_no2 {A B : Int} {ps : List H3} (h : inB B (-50000) 50000 = false) : supB A B ps = false ∧ supR A B ps = (0, 0, 0) := by
  have : supB A B ps = false := by unfold supB; rw [h]; simp
  exact ⟨this, by unfold supR; rw [this]; rfl⟩
theorem sup_neg {A B : Int} {ps : List H3} (_ha : inB A (-50000) 50000 = true) (_hb : inB B (-50000) 50000 = true) (h : (farC A B (cnrL ps (cntC ps))).1 < 0) : supB A B ps = false ∧ supR A B ps = (0, 0, 0) := by
  rw [farC_S _ _ _ _ (Nat.le_refl _)] at h
  have : supB A B ps = false := by
    unfold supB
    by_cases r : rokB ps = true
    · have e : cntC ps = ps.length := if_pos r
      rw [e] at h
      rcases far_ix A B ps ps.length with ⟨z, _⟩ | ⟨j, hj, q⟩
      · have := List.eq_nil_of_length_eq_zero z; subst this; simp
      · rw [q] at h; simp only at h; omega
    · simp [r]
  exact ⟨this, by unfold supR; rw [this]; rfl⟩
theorem sup_pos {A B : Int} {ps : List H3} (ha : inB A (-50000) 50000 = true) (hb : inB B (-50000) 50000 = true) (h : ¬ (farC A B (cnrL ps (cntC ps))).1 < 0) : supB A B ps = true ∧ supR A B ps = farC A B (cnrL ps (cntC ps)) := by
  rw [farC_S _ _ _ _ (Nat.le_refl _)] at h ⊢
  have : supB A B ps = true := by
    unfold supB
    by_cases r : rokB ps = true
    · have ne : ps ≠ [] := by
        rintro rfl
        apply h
        have : cntC [] = 0 := by unfold cntC; split <;> rfl
        rw [this]; show (-1 : Int) < 0; omega
      simp [r, ha, hb, ne]
    · exfalso; apply h
      have : cntC ps = 0 := if_neg r
      rw [this]; show (-1 : Int) < 0; omega
  refine ⟨this, ?_⟩
  unfold supR
  rw [if_pos this]
  have r : rokB ps = true := by unfold supB at this; simp only [Bool.and_eq_true] at this; exact this.1.1.1
  rw [show cntC ps = ps.length from if_pos r]
theorem in5_of {A : Int} (h : inB A (-50000) 50000 = true) : In5 A := by unfold inB at h; simpa [In5] using h
/-- the stores of a new farthest corner -/
theorem far_stored {W : World} {k N D k' N' D' : Int} {S : Nat} {T U : TypeId} (h4 : Blk W (S + 4) #[.int .i64 k] T) (h5 : Blk W (S + 4 + 1) #[.int .i64 N, .int .i64 D] U) :
    Blk ((((W.setCell ⟨S + 4, 0, none⟩ (.int .i64 k')).setCell ⟨S + 4 + 1, 0, none⟩ (.int .i64 N')).setCell ⟨S + 4 + 1, 1, none⟩ (.int .i64 D')).drew) (S + 4) #[.int .i64 k'] T ∧ Blk ((((W.setCell ⟨S + 4, 0, none⟩ (.int .i64 k')).setCell ⟨S + 4 + 1, 0, none⟩ (.int .i64 N')).setCell ⟨S + 4 + 1, 1, none⟩ (.int .i64 D')).drew) (S + 4 + 1) #[.int .i64 N', .int .i64 D'] U :=
  ⟨blk_far (blk_far (blk_set h4 _) _ (by simp)) _ (by simp), blk_set2 (blk_far h5 _ (by simp)) _ _⟩
theorem far_other {W : World} {cs : Array Value} {S B : Nat} {T : TypeId} (h : Blk W B cs T) (x y z : Value) (hB : B < S + 4) : Blk ((((W.setCell ⟨S + 4, 0, none⟩ x).setCell ⟨S + 4 + 1, 0, none⟩ y).setCell ⟨S + 4 + 1, 1, none⟩ z).drew) B cs T :=
  blk_far (blk_far (blk_far h _ (by simp; omega)) _ (by simp; omega)) _ (by simp; omega)
theorem far_kept {W : World} {S B0 : Nat} (x y z : Value) (_h : S + 4 + 1 + 1 < B0) : KeepsFrom B0 W ((((W.setCell ⟨S + 4, 0, none⟩ x).setCell ⟨S + 4 + 1, 0, none⟩ y).setCell ⟨S + 4 + 1, 1, none⟩ z).drew) ∧ KpC S (S + 4 + 1 + 1) W ((((W.setCell ⟨S + 4, 0, none⟩ x).setCell ⟨S + 4 + 1, 0, none⟩ y).setCell ⟨S + 4 + 1, 1, none⟩ z).drew) := by
  refine ⟨(((KeepsOthers.setCell _ _ _).trans (KeepsOthers.setCell _ _ _)).trans ((KeepsOthers.setCell _ _ _).trans (KeepsOthers.drew _))).from _, ?_, ?_⟩
  · exact ((((Below.refl _ _).setCell (p := ⟨S + 4, 0, none⟩) (by simp) _).setCell (p := ⟨S + 4 + 1, 0, none⟩) (by simp; omega) _).setCell (p := ⟨S + 4 + 1, 1, none⟩) (by simp; omega) _).drew
  · show ((((W.setCell ⟨S + 4, 0, none⟩ x).setCell ⟨S + 4 + 1, 0, none⟩ y).setCell ⟨S + 4 + 1, 1, none⟩ z)).heap[S + 4 + 1 + 1]? = _
    rw [Below.heap_setCell _ _ _ _ (by simp), Below.heap_setCell _ _ _ _ (by simp), Below.heap_setCell _ _ _ _ (by simp)]
theorem two_new (w : World) (x y : Value) (T : TypeId) : (w.alloc (.cells #[x, y] T)).cell? ⟨w.heap.size, 0, none⟩ = some x ∧ (w.alloc (.cells #[x, y] T)).cell? ⟨w.heap.size, 1, none⟩ = some y ∧ (w.alloc (.cells #[x, y] T)).frozen? ⟨w.heap.size, 0, none⟩ = false ∧ (w.alloc (.cells #[x, y] T)).frozen? ⟨w.heap.size, 1, none⟩ = false := by
  have h := heap_alloc_new w (.cells #[x, y] T)
  exact ⟨cell_of_row _ _ 0 _ _ _ h, cell_of_row _ _ 1 _ _ _ h, frozen_of_row _ _ 0 _ _ h, frozen_of_row _ _ 1 _ _ h⟩
/-- what FarthestCorner answers -/
noncomputable def fkA (A B : Int) (ps : List H3) : Int := if supB A B ps = true then (supR A B ps).1 else -1
theorem set_row {W : World} {B o i : Nat} {a b c : Value} {g : Nat} (h : Tri W g o a b c) (hne : g ≠ B) (u : Value) : Tri (W.setCell ⟨B, i, none⟩ u) g o a b c := tri_far h (p := ⟨B, i, none⟩) (fun e => hne e.symm) u
theorem hs_far {W : World} {ao : Option Addr} {hs : List H3} (h : HsAt W ao hs) {B i : Nat} (u : Value) (hne : ∀ g o, ao = some ⟨g, o, none⟩ → g ≠ B) : HsAt (W.setCell ⟨B, i, none⟩ u) ao hs := by
  intro k x hx
  obtain ⟨g, o, e, hc⟩ := h k x hx
  exact ⟨g, o, e, tri_far hc (p := ⟨B, i, none⟩) (fun e' => hne g o e e'.symm) u⟩
/-- the stores of a new farthest corner -/
theorem far_put {W : World} {cs : Array Value} {N D : Int} {B : Nat} {T U : TypeId} {ao : Option Addr} {L : List H3} {w : World} {N' D' : Int} {ob : Obj} (h1 : Blk W (B + 1) cs T) (h2 : Blk W (B + 1 + 1) #[.int .i64 N, .int .i64 D] U) (hh : HsAt W ao L) (hne : ∀ g o, ao = some ⟨g, o, none⟩ → g ≠ B + 1 + 1) (hb : Below w.heap.size w W) (hw : w.heap.size ≤ B + 1 + 1) :
    Blk (((W.setCell ⟨B + 1 + 1, 0, none⟩ (.int .i64 N')).setCell ⟨B + 1 + 1, 1, none⟩ (.int .i64 D')).alloc ob) (B + 1) cs T ∧ Blk (((W.setCell ⟨B + 1 + 1, 0, none⟩ (.int .i64 N')).setCell ⟨B + 1 + 1, 1, none⟩ (.int .i64 D')).alloc ob) (B + 1 + 1) #[.int .i64 N', .int .i64 D'] U ∧
    HsAt (((W.setCell ⟨B + 1 + 1, 0, none⟩ (.int .i64 N')).setCell ⟨B + 1 + 1, 1, none⟩ (.int .i64 D')).alloc ob) ao L ∧ Below w.heap.size w (((W.setCell ⟨B + 1 + 1, 0, none⟩ (.int .i64 N')).setCell ⟨B + 1 + 1, 1, none⟩ (.int .i64 D')).alloc ob) := by
  refine ⟨(blk_far (blk_far h1 _ (by simp)) _ (by simp)).to (below_one _ _), (blk_set2 h2 _ _).to (below_one _ _), (hs_far (hs_far hh _ hne) _ hne).below (below_one _ _), below_bx2 ((hb.setCell (p := ⟨B + 1 + 1, 0, none⟩) (by simpa using hw) _).setCell (p := ⟨B + 1 + 1, 1, none⟩) (by simpa using hw) _) _⟩
theorem two_put {V X : World} {B b i j : Nat} {x y p q : Value} (hne : B ≠ b) (h : V.cell? ⟨b, i, none⟩ = some x) (k : V.cell? ⟨b, j, none⟩ = some y) (hb : Below V.heap.size V X) : ((X.setCell ⟨B, 0, none⟩ p).setCell ⟨B, 1, none⟩ q).cell? ⟨b, i, none⟩ = some x ∧ ((X.setCell ⟨B, 0, none⟩ p).setCell ⟨B, 1, none⟩ q).cell? ⟨b, j, none⟩ = some y := by
  rw [World.cell?_setCell_far _ _ _ _ (by simpa using hne), World.cell?_setCell_far _ _ _ _ (by simpa using hne), World.cell?_setCell_far _ _ _ _ (by simpa using hne), World.cell?_setCell_far _ _ _ _ (by simpa using hne)]
  exact ⟨cell_to h hb, cell_to k hb⟩
theorem sup_of {A B : Int} {ps : List H3} {n : Nat} (hl : ps.length = n) (h : rokB ps = true) (ne : ps ≠ []) (ha : inB A (-50000) 50000 = true) (hb : inB B (-50000) 50000 = true) : supB A B ps = true ∧ supR A B ps = farS A B ps n ∧ okR (farS A B ps n).2.1 (farS A B ps n).2.2 = true ∧ FarI (farS A B ps n) := by
  have s : supB A B ps = true := by unfold supB; simp [h, ne, ha, hb]
  refine ⟨s, by unfold supR; rw [if_pos s, hl], ?_⟩
  rcases far_ix A B ps n with ⟨z, _⟩ | ⟨j, hj, e⟩
  · exact absurd (len_nil hl z) ne
  · obtain ⟨_, q, _, q1, q2, q3, q4⟩ := va_facts (in5_of ha) (in5_of hb) (cnr_facts h ne (i := j) (by omega)).1
    rw [e]
    refine ⟨q, ⟨?_, ?_⟩, ⟨q3, q4⟩, ?_, q2⟩
    · simp only; omega
    · simp only; have := rok_len h; omega
    · simp only; omega
theorem sup_not {A B : Int} {ps : List H3} (h : rokB ps = false ∨ ps = []) : supB A B ps = false ∧ supR A B ps = (0, 0, 0) := by
  have : supB A B ps = false := by unfold supB; rcases h with h | h <;> simp [h]
  exact ⟨this, by unfold supR; rw [this]; rfl⟩
end Go.Proofs.Ytibkmhmeoelpdaa
