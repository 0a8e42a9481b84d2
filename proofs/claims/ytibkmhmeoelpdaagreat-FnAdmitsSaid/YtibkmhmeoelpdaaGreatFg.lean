/- The program's farthestIn over the translation: the first corner that is farthest in a direction, and its value. SupportOf and FarthestCorner of the program and of the model over the translation. -/
import Derived.Test.YtibkmhmeoelpdaaGreatCg
import Derived.Test.YtibkmhmeoelpdaaGreatCf
import Derived.Test.YtibkmhmeoelpdaaGreatCv
namespace Go.Proofs.YtibkmhmeoelpdaaGreat
open Go.RowKit Go.Shelf
open Geo (H3)
open Go.RowKit

attribute [local go_sem] Oper.semAt_some

theorem blk_ownf {β : Type} (B : Nat) (f : β → Array Value) (t : TypeId) : Own (fun (s : β) W => Blk W B (f s) t) := fun s X Y row hs hg hrow => blk_own (β := β) B (f s) t s X Y row hs hg hrow
def farP (A B : Int) (s : Int × Int × Int) (x : Cnr) : Int × Int × Int := if s.1 < 0 ∨ 0 < cmpO (vaN A B x.1.2) (vaD A B x.1.2) s.2.1 s.2.2 then ((x.1.1 : Int), vaN A B x.1.2, vaD A B x.1.2) else s
def farC (A B : Int) (pre : List Cnr) : Int × Int × Int := pre.foldl (farP A B) (-1, 0, 0)
theorem farC_next (A B : Int) (pre : List Cnr) (x : Cnr) : farC A B (pre ++ [x]) = farP A B (farC A B pre) x := by simp [farC]
theorem farC_S (A B : Int) (ps : List H3) (k : Nat) (h : k ≤ cntC ps) : farC A B (cnrL ps k) = farS A B ps k := by
  induction k with
  | zero => rfl
  | succ k ih =>
    rw [cnrL_next, farC_next, ih (by omega)]
    obtain ⟨e, r, l⟩ := cnrF_pt (ps := ps) (k := k) (by omega)
    have ne : ps ≠ [] := by rintro rfl; simp at l
    have e1 : (cnrF ps k).1.1 = k := by rw [cnrF_of r ne l]
    unfold farP
    rw [e, e1]
    rfl
theorem blk_set2 {W : World} {B : Nat} {u v : Value} {t : TypeId} (h : Blk W B #[u, v] t) (x y : Value) : Blk ((W.setCell ⟨B, 0, none⟩ x).setCell ⟨B, 1, none⟩ y) B #[x, y] t :=
  heap_setCell_same _ B 1 _ t y (heap_setCell_same W B 0 _ t x h)
/-- what comes is within bounds -/
def FarI (s : Int × Int × Int) : Prop := (-1 ≤ s.1 ∧ s.1 < 41) ∧ (-500000000000000000 ≤ s.2.1 ∧ s.2.1 ≤ 500000000000000000) ∧ 0 ≤ s.2.2 ∧ s.2.2 ≤ 5000000000
theorem farI_zero : FarI (-1, 0, 0) := by unfold FarI; simp
theorem farI_next {A B : Int} (hA : In5 A) (hB : In5 B) {s : Int × Int × Int} (h : FarI s) (x : Cnr) : FarI (farP A B s x) := by
  unfold farP
  split
  · obtain ⟨_, _, _, q1, q2, q3, q4⟩ := va_facts hA hB x.2.1
    have := x.2.2
    exact ⟨⟨by simp only; omega, by simp only; omega⟩, ⟨q3, q4⟩, by simp only; omega, q2⟩
  · exact h
def supB (A B : Int) (ps : List H3) : Bool := rokB ps && decide (ps ≠ []) && inB A (-50000) 50000 && inB B (-50000) 50000
noncomputable def supR (A B : Int) (ps : List H3) : Int × Int × Int := if supB A B ps = true then farS A B ps ps.length else (0, 0, 0)
theorem sup_no1 {A B : Int} {ps : List H3} (h : inB A (-50000) 50000 = false) : supB A B ps = false ∧ supR A B ps = (0, 0, 0) := by
  have : supB A B ps = false := by unfold supB; rw [h]; simp
  exact ⟨this, by unfold supR; rw [this]; rfl⟩
theorem sup_no2 {A B : Int} {ps : List H3} (h : inB B (-50000) 50000 = false) : supB A B ps = false ∧ supR A B ps = (0, 0, 0) := by
  have : supB A B ps = false := by unfold supB; rw [h]; simp
  exact ⟨this, by unfold supR; rw [this]; rfl⟩
theorem sup_neg {A B : Int} {ps : List H3} (_ha : inB A (-50000) 50000 = true) (_hb : inB B (-50000) 50000 = true) (h : (farC A B (cnrL ps (cntC ps))).1 < 0) : supB A B ps = false ∧ supR A B ps = (0, 0, 0) := by
  rw [farC_S _ _ _ _ (Nat.le_refl _)] at h
  have : supB A B ps = false := by
    unfold supB
    by_cases r : rokB ps = true
    · have e : cntC ps = ps.length := if_pos r
      rw [e] at h
      rcases far_ix A B ps ps.length with ⟨z, _⟩ | ⟨j, hj, q⟩
      · have := List.eq_nil_of_length_eq_zero z; subst this; simp
      · rw [q] at h; simp only at h; omega
    · simp [r]
  exact ⟨this, by unfold supR; rw [this]; rfl⟩
theorem sup_pos {A B : Int} {ps : List H3} (ha : inB A (-50000) 50000 = true) (hb : inB B (-50000) 50000 = true) (h : ¬ (farC A B (cnrL ps (cntC ps))).1 < 0) : supB A B ps = true ∧ supR A B ps = farC A B (cnrL ps (cntC ps)) := by
  rw [farC_S _ _ _ _ (Nat.le_refl _)] at h ⊢
  have : supB A B ps = true := by
    unfold supB
    by_cases r : rokB ps = true
    · have ne : ps ≠ [] := by
        rintro rfl
        apply h
        have : cntC [] = 0 := by unfold cntC; split <;> rfl
        rw [this]; show (-1 : Int) < 0; omega
      simp [r, ha, hb, ne]
    · exfalso; apply h
      have : cntC ps = 0 := if_neg r
      rw [this]; show (-1 : Int) < 0; omega
  refine ⟨this, ?_⟩
  unfold supR
  rw [if_pos this]
  have r : rokB ps = true := by unfold supB at this; simp only [Bool.and_eq_true] at this; exact this.1.1.1
  rw [show cntC ps = ps.length from if_pos r]
theorem in5_of {A : Int} (h : inB A (-50000) 50000 = true) : In5 A := by unfold inB at h; simpa [In5] using h
/-- the stores of a new farthest corner -/
theorem far_stored {W : World} {k N D k' N' D' : Int} {S : Nat} {T U : TypeId} (h4 : Blk W (S + 4) #[.int .i64 k] T) (h5 : Blk W (S + 4 + 1) #[.int .i64 N, .int .i64 D] U) :
    Blk ((((W.setCell ⟨S + 4, 0, none⟩ (.int .i64 k')).setCell ⟨S + 4 + 1, 0, none⟩ (.int .i64 N')).setCell ⟨S + 4 + 1, 1, none⟩ (.int .i64 D')).drew) (S + 4) #[.int .i64 k'] T ∧ Blk ((((W.setCell ⟨S + 4, 0, none⟩ (.int .i64 k')).setCell ⟨S + 4 + 1, 0, none⟩ (.int .i64 N')).setCell ⟨S + 4 + 1, 1, none⟩ (.int .i64 D')).drew) (S + 4 + 1) #[.int .i64 N', .int .i64 D'] U :=
  ⟨blk_far (blk_far (blk_set h4 _) _ (by simp)) _ (by simp), blk_set2 (blk_far h5 _ (by simp)) _ _⟩
theorem far_other {W : World} {cs : Array Value} {S B : Nat} {T : TypeId} (h : Blk W B cs T) (x y z : Value) (hB : B < S + 4) : Blk ((((W.setCell ⟨S + 4, 0, none⟩ x).setCell ⟨S + 4 + 1, 0, none⟩ y).setCell ⟨S + 4 + 1, 1, none⟩ z).drew) B cs T :=
  blk_far (blk_far (blk_far h _ (by simp; omega)) _ (by simp; omega)) _ (by simp; omega)
theorem far_kept {W : World} {S B0 : Nat} (x y z : Value) (_h : S + 4 + 1 + 1 < B0) : KeepsFrom B0 W ((((W.setCell ⟨S + 4, 0, none⟩ x).setCell ⟨S + 4 + 1, 0, none⟩ y).setCell ⟨S + 4 + 1, 1, none⟩ z).drew) ∧ KpC S (S + 4 + 1 + 1) W ((((W.setCell ⟨S + 4, 0, none⟩ x).setCell ⟨S + 4 + 1, 0, none⟩ y).setCell ⟨S + 4 + 1, 1, none⟩ z).drew) := by
  refine ⟨(((KeepsOthers.setCell _ _ _).trans (KeepsOthers.setCell _ _ _)).trans ((KeepsOthers.setCell _ _ _).trans (KeepsOthers.drew _))).from _, ?_, ?_⟩
  · exact ((((Below.refl _ _).setCell (p := ⟨S + 4, 0, none⟩) (by simp) _).setCell (p := ⟨S + 4 + 1, 0, none⟩) (by simp; omega) _).setCell (p := ⟨S + 4 + 1, 1, none⟩) (by simp; omega) _).drew
  · show ((((W.setCell ⟨S + 4, 0, none⟩ x).setCell ⟨S + 4 + 1, 0, none⟩ y).setCell ⟨S + 4 + 1, 1, none⟩ z)).heap[S + 4 + 1 + 1]? = _
    rw [Below.heap_setCell _ _ _ _ (by simp), Below.heap_setCell _ _ _ _ (by simp), Below.heap_setCell _ _ _ _ (by simp)]
set_option maxRecDepth 100000 in
set_option maxHeartbeats 2000000 in
theorem impl_far (a : Option Addr) (n cap : Nat) (ps : List H3) (A B : Int) (w : World) (hl : ps.length = n) (hn : n ≤ 1048576) (h64 : ∀ h ∈ ps, In64 h) (hA : HsAt w a ps) :
    Calls Tryz.prog 156 #[.agg #[.slice a n cap], .int .i64 A, .int .i64 B] w fun e w' => e = .returned (.tuple #[.int .i64 (supR A B ps).1, .agg #[.int .i64 (supR A B ps).2.1, .int .i64 (supR A B ps).2.2], .bool (supB A B ps)]) ∧ Below w.heap.size w w' := by
  have HA := Lib.hid hA
  have HL := Lib.hid hl
  have H64 := Lib.hid h64
  clear hl hA h64
  refine (callsIn_wide (n := 3)).1 ?_
  refine callsIn_of_wp_marks Tryz.func156 rfl trivial ?_ rfl
  simp only [Tryz.ntmps156, List.size_toArray, List.length_cons, List.length_nil, Nat.reduceAdd, Nat.reduceSub, Array.replicate_succ, Array.replicate_zero, List.push_toArray, List.append_toArray, List.nil_append, List.cons_append]
  have B1 := blk_new (w.alloc (.cells #[.slice a n cap] 40)) #[.int .i64 A] 3 (b := w.heap.size + 1) (by simp)
  have B2 := blk_new ((w.alloc (.cells #[.slice a n cap] 40)).alloc (.cells #[.int .i64 A] 3)) #[.int .i64 B] 3 (b := w.heap.size + 1 + 1) (by simp)
  have B3 := blk_new (((w.alloc (.cells #[.slice a n cap] 40)).alloc (.cells #[.int .i64 A] 3)).alloc (.cells #[.int .i64 B] 3)) #[.int .i64 0, .int .i64 0] 33 (b := w.heap.size + 1 + 1 + 1) (by simp)
  have bw := below_bx2 (below_bx2 (below_bx2 (below_one w (.cells #[.slice a n cap] 40)) (.cells #[.int .i64 A] 3)) (.cells #[.int .i64 B] 3)) (.cells #[.int .i64 0, .int .i64 0] 33)
  have B0 := (blk_new w #[.slice a n cap] 40 rfl).to (below_bx2 (below_bx2 (below_one (w.alloc (.cells #[.slice a n cap] 40)) (.cells #[.int .i64 A] 3)) (.cells #[.int .i64 B] 3)) (.cells #[.int .i64 0, .int .i64 0] 33))
  replace B1 := B1.to (below_bx2 (below_one ((w.alloc (.cells #[.slice a n cap] 40)).alloc (.cells #[.int .i64 A] 3)) (.cells #[.int .i64 B] 3)) (.cells #[.int .i64 0, .int .i64 0] 33))
  replace B2 := B2.to (below_one (((w.alloc (.cells #[.slice a n cap] 40)).alloc (.cells #[.int .i64 A] 3)).alloc (.cells #[.int .i64 B] 3)) (.cells #[.int .i64 0, .int .i64 0] 33))
  have hsz : ((((w.alloc (.cells #[.slice a n cap] 40)).alloc (.cells #[.int .i64 A] 3)).alloc (.cells #[.int .i64 B] 3)).alloc (.cells #[.int .i64 0, .int .i64 0] 33)).heap.size = w.heap.size + 4 := by simp
  gi_wp2_with fail
  generalize ((((w.alloc (.cells #[.slice a n cap] 40)).alloc (.cells #[.int .i64 A] 3)).alloc (.cells #[.int .i64 B] 3)).alloc (.cells #[.int .i64 0, .int .i64 0] 33)) = V at *
  have c0 := B0.cell0 (i := 0) rfl
  have c1 := B1.cell0 (i := 0) rfl
  have c2 := B2.cell0 (i := 0) rfl
  have c3 := B3.cell0 (i := 0) rfl
  have c4 := B3.cell0 (i := 1) rfl
  have f3 := B3.free 0
  have f4 := B3.free 1
  cases h1 : inB A (-50000) 50000 with
  | false =>
    have HN := Lib.hid (sup_no1 (B := B) (ps := ps) h1)
    have HI := Lib.hid (fun W => in_impl_is A (-50000) 50000 W false h1)
    clear h1
    refine ⟨trivial, (callsIn_wide.2 (HI.out _)).mono ?_⟩
    rintro e w1 ⟨rfl, rfl⟩
    gi_wp2
    refine ⟨trivial, ?_⟩
    gi_wp2
    have hc5 := (blk_set2 B3 (.int .i64 0) (.int .i64 0)).cell0 (i := 0) rfl
    have hc6 := (blk_set2 B3 (.int .i64 0) (.int .i64 0)).cell0 (i := 1) rfl
    exact ⟨.tuple #[.int .i64 0, .agg #[.int .i64 0, .int .i64 0], .bool false], by simp [results, Tryz.results156, go_sem, hc5, hc6], by rw [HN.out.1, HN.out.2], (bw.setCell (p := ⟨w.heap.size + 1 + 1 + 1, 0, none⟩) (by simp; omega) _).setCell (p := ⟨w.heap.size + 1 + 1 + 1, 1, none⟩) (by simp; omega) _⟩
  | true =>
    have HI := Lib.hid (fun W => in_impl_is A (-50000) 50000 W true h1)
    have HJ1 := Lib.hid h1
    clear h1
    refine ⟨trivial, (callsIn_wide.2 (HI.out _)).mono ?_⟩
    rintro e w1 ⟨rfl, rfl⟩
    gi_wp2_with fail
    cases h1 : inB B (-50000) 50000 with
    | false =>
      have HN := Lib.hid (sup_no2 (A := A) (ps := ps) h1)
      have HI := Lib.hid (fun W => in_impl_is B (-50000) 50000 W false h1)
      clear h1
      refine ⟨trivial, (callsIn_wide.2 (HI.out _)).mono ?_⟩
      rintro e w1 ⟨rfl, rfl⟩
      gi_wp2
      have hc5 := (blk_set2 B3 (.int .i64 0) (.int .i64 0)).cell0 (i := 0) rfl
      have hc6 := (blk_set2 B3 (.int .i64 0) (.int .i64 0)).cell0 (i := 1) rfl
      exact ⟨.tuple #[.int .i64 0, .agg #[.int .i64 0, .int .i64 0], .bool false], by simp [results, Tryz.results156, go_sem, hc5, hc6], by rw [HN.out.1, HN.out.2], (bw.setCell (p := ⟨w.heap.size + 1 + 1 + 1, 0, none⟩) (by simp; omega) _).setCell (p := ⟨w.heap.size + 1 + 1 + 1, 1, none⟩) (by simp; omega) _⟩
    | true =>
      have HI := Lib.hid (fun W => in_impl_is B (-50000) 50000 W true h1)
      have HJ2 := Lib.hid h1
      clear h1
      refine ⟨trivial, (callsIn_wide.2 (HI.out _)).mono ?_⟩
      rintro e w1 ⟨rfl, rfl⟩
      have iA := in5_of HJ1.out
      have iB := in5_of HJ2.out
      clear HI
      gi_wp2_with fail
      refine ⟨trivial, (cor_made _ _ _ _ _).mono ?_⟩
      rintro e w' ⟨rfl, rfl⟩
      gi_wp2_with fail
      have D4 := blk_new w1 #[.int .i64 (-1)] 3 (b := w.heap.size + 4) hsz
      have D5 := blk_new (w1.alloc (.cells #[.int .i64 (-1)] 3)) #[.int .i64 0, .int .i64 0] 33 (b := w.heap.size + 4 + 1) (by simp [hsz])
      have D6 := blk_new ((w1.alloc (.cells #[.int .i64 (-1)] 3)).alloc (.cells #[.int .i64 0, .int .i64 0] 33)) #[.slice a n cap] 40 (b := w.heap.size + 4 + 1 + 1) (by simp [hsz])
      have bm := below_bx2 (below_bx2 (below_one w1 (.cells #[.int .i64 (-1)] 3)) (.cells #[.int .i64 0, .int .i64 0] 33)) (.cells #[.slice a n cap] 40)
      replace D4 := D4.to (below_bx2 (below_one (w1.alloc (.cells #[.int .i64 (-1)] 3)) (.cells #[.int .i64 0, .int .i64 0] 33)) (.cells #[.slice a n cap] 40))
      replace D5 := D5.to (below_one ((w1.alloc (.cells #[.int .i64 (-1)] 3)).alloc (.cells #[.int .i64 0, .int .i64 0] 33)) (.cells #[.slice a n cap] 40))
      have hsz2 : (((w1.alloc (.cells #[.int .i64 (-1)] 3)).alloc (.cells #[.int .i64 0, .int .i64 0] 33)).alloc (.cells #[.slice a n cap] 40)).heap.size = w.heap.size + 7 := by simp [hsz]
      replace bw := below_to bw bm
      replace B1 := B1.to bm
      replace B2 := B2.to bm
      replace B3 := B3.to bm
      clear c0 c1 c2 c3 c4 f3 f4 B0 bm hsz
      generalize ((w1.alloc (.cells #[.int .i64 (-1)] 3)).alloc (.cells #[.int .i64 0, .int .i64 0] 33)).alloc (.cells #[.slice a n cap] 40) = W0 at *
      refine wpIn_rangeFunc_ownH rfl (by omega) (gf := 119) (lb := #[.pointer (some ⟨w.heap.size + 4 + 1 + 1, 0, none⟩)]) rfl trivial (enters_of Tryz.func119 (by kernel_rfl) rfl)
        (cor_stops (3 - 1) (by omega) (w.heap.size + 4 + 1 + 1) n cap a ps w W0 HL.out hn H64.out HA.out bw D6) KpC.t (KpC.b bw.size D6.lt) (Below.refl _ _) (fun _ => rfl)
        (fun pre W => ((Blk W (w.heap.size + 1) #[.int .i64 A] 3 ∧ Blk W (w.heap.size + 1 + 1) #[.int .i64 B] 3) ∧ Blk W (w.heap.size + 1 + 1 + 1) #[.int .i64 0, .int .i64 0] 33) ∧ (Blk W (w.heap.size + 4) #[.int .i64 (farC A B pre).1] 3 ∧ Blk W (w.heap.size + 4 + 1) #[.int .i64 (farC A B pre).2.1, .int .i64 (farC A B pre).2.2] 33) ∧ FarI (farC A B pre) ∧ Below w.heap.size w W ∧ w.heap.size + 7 ≤ W.heap.size)
        (fun _ _ _ => False)
        (OwnFrom.and (OwnFrom.and (OwnFrom.and (Own.from (blk_own _ _ _) _) (Own.from (blk_own _ _ _) _)) (Own.from (blk_own _ _ _) _)) (OwnFrom.and (OwnFrom.and (Own.from (blk_ownf _ (fun pre : List Cnr => #[.int .i64 (farC A B pre).1]) _) _) (Own.from (blk_ownf _ (fun pre : List Cnr => #[.int .i64 (farC A B pre).2.1, .int .i64 (farC A B pre).2.2]) _) _)) (OwnFrom.and (ownFrom_pure _ (fun pre : List Cnr => FarI (farC A B pre))) (OwnFrom.and (ownFrom_below (Nat.le_refl _) bw.size) (ownFrom_size _ _)))))
        (fun _ _ _ _ _ hs _ _ => hs)
        ⟨⟨⟨B1, B2⟩, B3⟩, ⟨D4, D5⟩, farI_zero, bw, by omega⟩
        (fun c a' W => ∃ Bx, w.heap.size + 7 ≤ Bx ∧ Blk W Bx #[.int .i64 c.1.2.a, .int .i64 c.1.2.b, .int .i64 c.1.2.c] 45 ∧ a' = { tmps := #[.agg #[.slice a n cap], .int .i64 A, .int .i64 B, .pointer (some ⟨w.heap.size, 0, none⟩), .pointer (some ⟨w.heap.size + 1, 0, none⟩), .pointer (some ⟨w.heap.size + 1 + 1, 0, none⟩), .int .i64 0, .pointer (some ⟨w.heap.size + 1 + 1 + 1, 0, none⟩), .bool false, .pointer (some ⟨w.heap.size + 4, 0, none⟩), .pointer (some ⟨w.heap.size + 4 + 1, 0, none⟩), .int .i64 (c.1.1 : Int), .pointer (some ⟨Bx, 0, none⟩), undef, .int .i64 A, .bool true, .bool false, .bool false, .int .i64 B, .bool true, .bool false, .bool false, undef, .agg #[.int .i64 0, .int .i64 0], .agg #[.slice a n cap], .func (.func 119) #[] #[.pointer (some ⟨w.heap.size + 4 + 1 + 1, 0, none⟩)], .int .i64 (c.1.1 : Int), .agg #[.int .i64 c.1.2.a, .int .i64 c.1.2.b, .int .i64 c.1.2.c], undef, undef, undef, undef, undef, undef, undef, undef, undef, undef, undef, undef, undef, undef, undef, undef, undef, undef, undef, undef, undef, undef, undef, undef, undef, undef, undef], defers := [] })
        ?hAx ?assign ?body ?done ?stop
      case hAx =>
        rintro c a' u X Y row ⟨Bx, h1, h2, h3⟩ hg hr
        exact ⟨Bx, h1, Own.from (blk_own (β := Unit) Bx _ _) _ u X Y row h2 hg hr, h3⟩
      case assign =>
        rintro l pre c W K ⟨⟨⟨i1, i2⟩, i3⟩, ⟨i4, i5⟩, i6, i7, i8⟩ hK
        gi_wp2
        have bn := below_one W (.cells #[.int .i64 c.1.2.a, .int .i64 c.1.2.b, .int .i64 c.1.2.c] 45)
        exact hK _ _ ((grown_keeps bn).from _) (KpC.of bn i7.size (by omega)) ⟨⟨⟨i1.to bn, i2.to bn⟩, i3.to bn⟩, ⟨i4.to bn, i5.to bn⟩, i6, below_to i7 bn, Nat.le_trans i8 bn.size⟩ ⟨W.heap.size, by omega, blk_new W _ _ rfl, rfl⟩
      case body =>
        rintro l pre ⟨⟨ci, ⟨cx, cy, cd⟩⟩, ho, hci⟩ a' W hl' _ ⟨⟨⟨i1, i2⟩, i3⟩, ⟨i4, i5⟩, i6, i7, i8⟩ ⟨Bx, hBx, iX, rfl⟩ _
        simp only at ho hci iX
        have HV := Lib.hid (impl_va (p := ⟨cx, cy, cd⟩) iA iB ho)
        obtain ⟨⟨m1, m2⟩, ⟨m3, m4⟩, m5, m6⟩ := va_in (p := ⟨cx, cy, cd⟩) iA iB ho
        obtain ⟨_, _, _, v1, v2, v3, v4⟩ := va_facts (p := ⟨cx, cy, cd⟩) iA iB ho
        have HP := Lib.hid (farC_next A B pre ⟨(ci, ⟨cx, cy, cd⟩), ho, hci⟩)
        have HFI := Lib.hid (farI_next iA iB i6 ⟨(ci, ⟨cx, cy, cd⟩), ho, hci⟩)
        unfold farP at HP HFI
        simp only at HV m1 m2 m3 m4 m5 m6 HP HFI
        rw [← HP.out] at HFI
        obtain ⟨⟨g1, g2⟩, ⟨g3, g4⟩, g5, g6⟩ := i6
        generalize vaN A B ⟨cx, cy, cd⟩ = vN at *
        generalize vaD A B ⟨cx, cy, cd⟩ = vD at *
        generalize hS : farC A B pre = s at *
        obtain ⟨sk, sN, sD⟩ := s
        simp only at g1 g2 g3 g4 g5 g6 i4 i5 HP
        have HC := Lib.hid (fun W => impl_cmp vN vD sN sD W (by omega) (by omega) (by omega) (by omega) (by omega) (by omega) (by omega) (by omega))
        generalize cmpO vN vD sN sD = r at *
        have x1 := iX.cell0 (i := 0) rfl
        have x2 := iX.cell0 (i := 1) rfl
        have x3 := iX.cell0 (i := 2) rfl
        have c1 := i1.cell0 (i := 0) rfl
        have c2 := i2.cell0 (i := 0) rfl
        have hd : 1 ≤ 3 - 1 - 1 := by omega
        generalize eu1 : A * cx = u1 at *
        generalize eu2 : B * cy = u2 at *
        gi_wp2_with fail
        refine ⟨trivial, (CallsIn.inRound l (callsIn_wide.2 (HV.out _))).mono ?_⟩
        rintro e w5 ⟨rfl, bl5⟩
        have bn := below_to bl5 (below_one w5 (.cells #[.int .i64 vN, .int .i64 vD] 33))
        have jX := blk_new w5 #[.int .i64 vN, .int .i64 vD] 33 rfl
        have j1 := i1.to bn
        have j2 := i2.to bn
        have j3 := i3.to bn
        have j4 := i4.to bn
        have j5 := i5.to bn
        have j7 := below_to i7 bn
        have j8 := Nat.le_trans i8 bn.size
        have HI := Lib.hid (show KeepsFrom W0.heap.size W (w5.alloc (.cells #[.int .i64 vN, .int .i64 vD] 33)) ∧ KpC w.heap.size (w.heap.size + 4 + 1 + 1) W (w5.alloc (.cells #[.int .i64 vN, .int .i64 vD] 33)) from ⟨(grown_keeps bn).from _, KpC.of bn i7.size (by omega)⟩)
        have hx5 : w.heap.size + 7 ≤ w5.heap.size := Nat.le_trans i8 bl5.size
        clear i1 i2 i3 i4 i5 i7 i8 bn bl5 c1 c2 x1 x2 x3 iX HV
        have d4 := j4.cell0 (i := 0) rfl
        have d5 := j5.cell0 (i := 0) rfl
        have d6 := j5.cell0 (i := 1) rfl
        have y1 := jX.cell0 (i := 0) rfl
        have y2 := jX.cell0 (i := 1) rfl
        by_cases hk : sk < 0
        · have HE := Lib.hid (HP.out.trans (if_pos (.inl hk)))
          clear HP
          have f4 := j4.free 0
          have f5 := j5.free 0
          have f6 := j5.free 1
          gi_wp2
          refine ⟨trivial, ?_⟩
          gi_wp2
          gi_region
          all_goals gi_wp2
          all_goals
            have K := far_kept (W := w5.alloc (.cells #[.int .i64 vN, .int .i64 vD] 33)) (S := w.heap.size) (B0 := W0.heap.size) (.int .i64 (ci : Int)) (.int .i64 vN) (.int .i64 vD) (by omega)
            exact ⟨HI.out.1.trans K.1, HI.out.2.t K.2, ⟨⟨far_other j1 _ _ _ (by omega), far_other j2 _ _ _ (by omega)⟩, far_other j3 _ _ _ (by omega)⟩, by rw [HE.out]; exact far_stored j4 j5, HFI.out, j7.trans K.2.1, Nat.le_trans j8 K.1.size⟩
        · gi_wp2_with fail
          refine ⟨trivial, (CallsIn.inRound l (callsIn_wide.2 (HC.out _))).mono ?_⟩
          rintro e w6 ⟨rfl, bl6⟩
          replace j1 := j1.to bl6
          replace j2 := j2.to bl6
          replace j3 := j3.to bl6
          replace j4 := j4.to bl6
          replace j5 := j5.to bl6
          replace jX := jX.to bl6
          replace j7 := below_to j7 bl6
          have j9 := Nat.le_trans j8 bl6.size
          have HI2 := Lib.hid (show KeepsFrom W0.heap.size W w6 ∧ KpC w.heap.size (w.heap.size + 4 + 1 + 1) W w6 from ⟨HI.out.1.trans ((grown_keeps bl6).from _), HI.out.2.t (KpC.of bl6 (by have := HI.out.2.1.size; have := bl6.size; omega) (by omega))⟩)
          clear d4 d5 d6 y1 y2 HI bl6 j8
          have d4 := j4.cell0 (i := 0) rfl
          have d5 := j5.cell0 (i := 0) rfl
          have d6 := j5.cell0 (i := 1) rfl
          have y1 := jX.cell0 (i := 0) rfl
          have y2 := jX.cell0 (i := 1) rfl
          by_cases hr : 0 < r
          · have HE := Lib.hid (HP.out.trans (if_pos (.inr hr)))
            clear HP
            have f4 := j4.free 0
            have f5 := j5.free 0
            have f6 := j5.free 1
            gi_wp2
            gi_region
            all_goals gi_wp2
            all_goals
              have K := far_kept (W := w6) (S := w.heap.size) (B0 := W0.heap.size) (.int .i64 (ci : Int)) (.int .i64 vN) (.int .i64 vD) (by omega)
              exact ⟨HI2.out.1.trans K.1, HI2.out.2.t K.2, ⟨⟨far_other j1 _ _ _ (by omega), far_other j2 _ _ _ (by omega)⟩, far_other j3 _ _ _ (by omega)⟩, by rw [HE.out]; exact far_stored j4 j5, HFI.out, j7.trans K.2.1, Nat.le_trans j9 K.1.size⟩
          · have HE := Lib.hid (HP.out.trans (if_neg (not_or.2 ⟨by omega, by omega⟩)))
            clear HP
            gi_wp2
            exact ⟨HI2.out.1, HI2.out.2, ⟨⟨j1, j2⟩, j3⟩, by rw [HE.out]; exact ⟨j4, j5⟩, HFI.out, j7, j9⟩
      case done =>
        rintro D ys W hD rfl ⟨⟨⟨i1, i2⟩, i3⟩, ⟨i4, i5⟩, i6, i7, i8⟩ hK
        have d4 := i4.cell0 (i := 0) rfl
        have d5 := i5.cell0 (i := 0) rfl
        have d6 := i5.cell0 (i := 1) rfl
        have c3 := i3.cell0 (i := 0) rfl
        have c4 := i3.cell0 (i := 1) rfl
        have f3 := i3.free 0
        have f4 := i3.free 1
        obtain ⟨⟨g1, g2⟩, _⟩ := i6
        by_cases hk : (farC A B (cnrL ps (cntC ps))).1 < 0
        · have HN := Lib.hid (sup_neg HJ1.out HJ2.out hk)
          generalize farC A B (cnrL ps (cntC ps)) = s at *
          obtain ⟨sk, sN, sD⟩ := s
          simp only at hk d4 d5 d6
          gi_wp2
          have hK' := ((KeepsOthers.setCell W ⟨w.heap.size + 1 + 1 + 1, 0, none⟩ (.int .i64 0)).trans (KeepsOthers.setCell _ ⟨w.heap.size + 1 + 1 + 1, 1, none⟩ (.int .i64 0))).same D _ hK rfl
          refine ⟨by simp, .inl ⟨_, _, rfl, run_takeDeferred hK', ?_⟩⟩
          have hc5 := cell_kept ((show Blk ((W.setCell ⟨w.heap.size + 1 + 1 + 1, 0, none⟩ (.int .i64 0)).setCell ⟨w.heap.size + 1 + 1 + 1, 1, none⟩ (.int .i64 0)) (w.heap.size + 1 + 1 + 1) #[.int .i64 0, .int .i64 0] 33 from blk_set2 i3 (.int .i64 0) (.int .i64 0)).cell0 (i := 0) rfl) (grownBy_putObj' _ D (.deferred none)) (fun r e => by cases e; exact ⟨_, hK', rfl⟩)
          have hc6 := cell_kept ((show Blk ((W.setCell ⟨w.heap.size + 1 + 1 + 1, 0, none⟩ (.int .i64 0)).setCell ⟨w.heap.size + 1 + 1 + 1, 1, none⟩ (.int .i64 0)) (w.heap.size + 1 + 1 + 1) #[.int .i64 0, .int .i64 0] 33 from blk_set2 i3 (.int .i64 0) (.int .i64 0)).cell0 (i := 1) rfl) (grownBy_putObj' _ D (.deferred none)) (fun r e => by cases e; exact ⟨_, hK', rfl⟩)
          refine ⟨.tuple #[.int .i64 0, .agg #[.int .i64 0, .int .i64 0], .bool false], ?_, by rw [HN.out.1, HN.out.2], behind (((i7.setCell (p := ⟨w.heap.size + 1 + 1 + 1, 0, none⟩) (by simp; omega) (.int .i64 0)).setCell (p := ⟨w.heap.size + 1 + 1 + 1, 1, none⟩) (by simp; omega) (.int .i64 0))) hK' hD bw.size⟩
          simp [results, Tryz.results156, go_sem, hc5, hc6]
        · have HN := Lib.hid (sup_pos HJ1.out HJ2.out hk)
          generalize farC A B (cnrL ps (cntC ps)) = s at *
          obtain ⟨sk, sN, sD⟩ := s
          simp only at hk d4 d5 d6
          gi_wp2
          gi_region
          all_goals gi_wp2
          all_goals
            have hK' := (((KeepsOthers.setCell W ⟨w.heap.size + 1 + 1 + 1, 0, none⟩ (.int .i64 sN)).trans (KeepsOthers.setCell _ ⟨w.heap.size + 1 + 1 + 1, 1, none⟩ (.int .i64 sD))).trans (KeepsOthers.drew _)).same D _ hK rfl
            refine ⟨by simp, .inl ⟨_, _, rfl, run_takeDeferred hK', ?_⟩⟩
            have hc5 := cell_kept ((show Blk (((W.setCell ⟨w.heap.size + 1 + 1 + 1, 0, none⟩ (.int .i64 sN)).setCell ⟨w.heap.size + 1 + 1 + 1, 1, none⟩ (.int .i64 sD)).drew) (w.heap.size + 1 + 1 + 1) #[.int .i64 sN, .int .i64 sD] 33 from blk_set2 i3 (.int .i64 sN) (.int .i64 sD)).cell0 (i := 0) rfl) (grownBy_putObj' _ D (.deferred none)) (fun r e => by cases e; exact ⟨_, hK', rfl⟩)
            have hc6 := cell_kept ((show Blk (((W.setCell ⟨w.heap.size + 1 + 1 + 1, 0, none⟩ (.int .i64 sN)).setCell ⟨w.heap.size + 1 + 1 + 1, 1, none⟩ (.int .i64 sD)).drew) (w.heap.size + 1 + 1 + 1) #[.int .i64 sN, .int .i64 sD] 33 from blk_set2 i3 (.int .i64 sN) (.int .i64 sD)).cell0 (i := 1) rfl) (grownBy_putObj' _ D (.deferred none)) (fun r e => by cases e; exact ⟨_, hK', rfl⟩)
            refine ⟨.tuple #[.int .i64 sk, .agg #[.int .i64 sN, .int .i64 sD], .bool true], ?_, by rw [HN.out.1, HN.out.2], behind (((i7.setCell (p := ⟨w.heap.size + 1 + 1 + 1, 0, none⟩) (by simp; omega) (.int .i64 sN)).setCell (p := ⟨w.heap.size + 1 + 1 + 1, 1, none⟩) (by simp; omega) (.int .i64 sD)).drew) hK' hD bw.size⟩
            simp [results, Tryz.results156, go_sem, hc5, hc6]
      case stop =>
        rintro D c pre W _ _ h _
        exact h.elim

theorem two_new (w : World) (x y : Value) (T : TypeId) : (w.alloc (.cells #[x, y] T)).cell? ⟨w.heap.size, 0, none⟩ = some x ∧ (w.alloc (.cells #[x, y] T)).cell? ⟨w.heap.size, 1, none⟩ = some y ∧ (w.alloc (.cells #[x, y] T)).frozen? ⟨w.heap.size, 0, none⟩ = false ∧ (w.alloc (.cells #[x, y] T)).frozen? ⟨w.heap.size, 1, none⟩ = false := by
  have h := heap_alloc_new w (.cells #[x, y] T)
  exact ⟨cell_of_row _ _ 0 _ _ _ h, cell_of_row _ _ 1 _ _ _ h, frozen_of_row _ _ 0 _ _ h, frozen_of_row _ _ 1 _ _ h⟩
set_option maxHeartbeats 1600000 in
theorem impl_sup (a : Option Addr) (n cap : Nat) (ps : List H3) (A B : Int) (w : World) (hl : ps.length = n) (hn : n ≤ 1048576) (h64 : ∀ h ∈ ps, In64 h) (hA : HsAt w a ps) :
    Calls Tryz.prog 139 #[.agg #[.slice a n cap], .int .i64 A, .int .i64 B] w fun e w' => e = .returned (.tuple #[.agg #[.int .i64 (supR A B ps).2.1, .int .i64 (supR A B ps).2.2], .bool (supB A B ps)]) ∧ Below w.heap.size w w' := by
  have bV := below_bx2 (below_one w (.cells #[.slice a n cap] 40)) (.cells #[.int .i64 0, .int .i64 0] 33)
  have B1 := blk_new (w.alloc (.cells #[.slice a n cap] 40)) #[.int .i64 0, .int .i64 0] 33 (b := w.heap.size + 1) (by simp)
  have HF := Lib.hid (fun V (h : Below w.heap.size w V) => impl_far a n cap ps A B V hl hn h64 (hA.below h))
  clear hl hA h64
  generalize supR A B ps = s at *
  generalize supB A B ps = r at *
  obtain ⟨sk, sN, sD⟩ := s
  simp only at HF ⊢
  go_enter Tryz.func139, Tryz.ntmps139
  go_wp2_with fail
  generalize (w.alloc (.cells #[.slice a n cap] 40)).alloc (.cells #[.int .i64 0, .int .i64 0] 33) = V at *
  refine (HF.out _ bV).mono ?_
  rintro e w1 ⟨rfl, bl1⟩
  have b1 := below_to bV bl1
  have B2 := (B1.to bl1).to (below_one w1 (.cells #[.int .i64 sN, .int .i64 sD] 33))
  have c1 := B2.cell0 (i := 0) rfl
  have c2 := B2.cell0 (i := 1) rfl
  have f1 := B2.free 0
  have f2 := B2.free 1
  obtain ⟨d1, d2, _, _⟩ := two_new w1 (.int .i64 sN) (.int .i64 sD) 33
  have b2 := below_bx2 b1 (.cells #[.int .i64 sN, .int .i64 sD] 33)
  clear bl1 B1 HF
  have hc5 := (blk_set2 B2 (.int .i64 sN) (.int .i64 sD)).cell0 (i := 0) rfl
  have hc6 := (blk_set2 B2 (.int .i64 sN) (.int .i64 sD)).cell0 (i := 1) rfl
  go_wp2_with fail
  exact bodyPost_ret (v := .tuple #[.agg #[.int .i64 sN, .int .i64 sD], .bool r]) (by simp [results, Tryz.results139, go_sem, hc5, hc6]) rfl ⟨rfl, (b2.setCell (p := ⟨w.heap.size + 1, 0, none⟩) (by simp) _).setCell (p := ⟨w.heap.size + 1, 1, none⟩) (by simp) _⟩
theorem sup_of {A B : Int} {ps : List H3} {n : Nat} (hl : ps.length = n) (h : rokB ps = true) (ne : ps ≠ []) (ha : inB A (-50000) 50000 = true) (hb : inB B (-50000) 50000 = true) : supB A B ps = true ∧ supR A B ps = farS A B ps n ∧ okR (farS A B ps n).2.1 (farS A B ps n).2.2 = true ∧ FarI (farS A B ps n) := by
  have s : supB A B ps = true := by unfold supB; simp [h, ne, ha, hb]
  refine ⟨s, by unfold supR; rw [if_pos s, hl], ?_⟩
  rcases far_ix A B ps n with ⟨z, _⟩ | ⟨j, hj, e⟩
  · exact absurd (len_nil hl z) ne
  · obtain ⟨_, q, _, q1, q2, q3, q4⟩ := va_facts (in5_of ha) (in5_of hb) (cnr_facts h ne (i := j) (by omega)).1
    rw [e]
    refine ⟨q, ⟨?_, ?_⟩, ⟨q3, q4⟩, ?_, q2⟩
    · simp only; omega
    · simp only; have := rok_len h; omega
    · simp only; omega
end Go.Proofs.YtibkmhmeoelpdaaGreat
