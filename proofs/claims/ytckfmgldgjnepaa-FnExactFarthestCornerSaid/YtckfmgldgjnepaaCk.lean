/- The program's IsCorner over the translation. -/
import Derived.Test.YtckfmgldgjnepaaCi
namespace Go.Proofs.Ytckfmgldgjnepaa
open Go.RowKit Go.Shelf
open Geo (H3)
attribute [local go_sem] Oper.semAt_some

theorem blk_own {β : Type} (B : Nat) (cs : Array Value) (t : TypeId) : Own (fun (_ : β) W => Blk W B cs t) := fun _ X Y row hs hg hrow =>
  (hg.block B hs.lt (fun e' => by obtain ⟨o, ho, hc⟩ := hrow B e'.symm; rw [show X.heap[B]? = _ from hs] at ho; cases ho; cases hc)).trans hs
theorem blk_new (W : World) (cs : Array Value) (t : TypeId) {b : Nat} (h : W.heap.size = b) : Blk (W.alloc (.cells cs t)) b cs t := by subst h; exact heap_alloc_new W _
theorem blk_far {W : World} {B : Nat} {cs : Array Value} {t : TypeId} (h : Blk W B cs t) {p : Addr} (u : Value) (hne : p.block ≠ B) : Blk (W.setCell p u) B cs t := (Below.heap_setCell W p u B (fun e => hne e.symm)).trans h
theorem blk_set {W : World} {B : Nat} {v : Value} {t : TypeId} (h : Blk W B #[v] t) (u : Value) : Blk (W.setCell ⟨B, 0, none⟩ u) B #[u] t := heap_setCell_same W B 0 _ t u h
theorem Blk.cell0 {W : World} {B : Nat} {cs : Array Value} {t : TypeId} {i : Nat} {v : Value} (h : Blk W B cs t) (k : cs[i]? = some v) : W.cell? ⟨B, i, none⟩ = some v := by
  simp [World.cell?, show W.heap[B]? = _ from h, k]
theorem Blk.free {W : World} {B : Nat} {cs : Array Value} {t : TypeId} (h : Blk W B cs t) (i : Nat) : W.frozen? ⟨B, i, none⟩ = false := frozen_of_row _ _ i _ _ h
theorem ownFrom_size {β : Type} (B N : Nat) : OwnFrom B (fun (_ : β) W => N ≤ W.heap.size) := fun _ _ _ _ hs hg _ => Nat.le_trans hs hg.size
theorem behind {w W : World} {D N : Nat} (hB : Below w.heap.size w W) (hK : W.heap[D]? = some (.deferred (some []))) (hD : N ≤ D) (hN : w.heap.size ≤ N) : Below w.heap.size w (W.putObj D (.deferred none)) := hB.trans (belowK_b (w := w) (Nat.le_refl _) W D _ _ (Nat.le_trans hN hD) hK rfl rfl)
theorem same_iff {a b c x y d : Int} : sameS a b c x y d = true ↔ (⟨a, b, c⟩ : H3) = ⟨x, y, d⟩ := by
  unfold sameS; simp [and_assoc]
/-- whether a spot is a corner -/
noncomputable def isC (ps : List H3) (x : H3) : Bool := (corR ps).any (fun y => decide (y = x))
theorem cnrF_pt {ps : List H3} {k : Nat} (h : k < cntC ps) : (cnrF ps k).1.2 = crA ps k ∧ rokB ps = true ∧ k < ps.length := by
  unfold cntC at h
  by_cases r : rokB ps = true
  · rw [if_pos r] at h
    have ne : ps ≠ [] := by rintro rfl; simp at h
    exact ⟨by rw [cnrF_of r ne h], r, h⟩
  · rw [if_neg r] at h; omega
theorem corR_mem {ps : List H3} {x : H3} : x ∈ corR ps ↔ ∃ k, k < cntC ps ∧ crA ps k = x := by
  unfold corR cntC
  split
  · unfold corL crA; simp
  · simp
theorem isC_no {ps : List H3} {x : H3} (h : ∀ c ∈ cnrL ps (cntC ps), c.1.2 ≠ x) : isC ps x = false := by
  unfold isC
  rw [List.any_eq_false]
  intro y hy
  obtain ⟨k, hk, rfl⟩ := corR_mem.1 hy
  have := h (cnrF ps k) (by unfold cnrL; simp only [List.mem_map, List.mem_range]; exact ⟨k, hk, rfl⟩)
  rw [(cnrF_pt hk).1] at this
  simpa using this
theorem isC_yes {ps : List H3} {x : H3} {m : Nat} (hm : m ≤ cntC ps) {c : Cnr} (hc : c ∈ cnrL ps m) (h : c.1.2 = x) : isC ps x = true := by
  unfold cnrL at hc
  simp only [List.mem_map, List.mem_range] at hc
  obtain ⟨k, hk, rfl⟩ := hc
  unfold isC
  rw [List.any_eq_true]
  refine ⟨x, corR_mem.2 ⟨k, by omega, ?_⟩, by simp⟩
  rw [← (cnrF_pt (ps := ps) (k := k) (by omega)).1]; exact h
set_option maxRecDepth 100000 in
set_option maxHeartbeats 2000000 in
theorem impl_isc (a : Option Addr) (n cap : Nat) (ps : List H3) (x y d : Int) (w : World) (hl : ps.length = n) (hn : n ≤ 1048576) (h64 : ∀ h ∈ ps, In64 h) (hA : HsAt w a ps) :
    Calls Try.prog 28 #[.agg #[.slice a n cap], .agg #[.int .i64 x, .int .i64 y, .int .i64 d]] w fun e w' => e = .returned (.bool (isC ps ⟨x, y, d⟩)) ∧ Below w.heap.size w w' := by
  refine (callsIn_wide (n := 3)).1 ?_
  refine callsIn_of_wp_marks Try.func28 rfl trivial ?_ rfl
  simp only [Try.ntmps28, List.size_toArray, List.length_cons, List.length_nil, Nat.reduceAdd, Nat.reduceSub, Array.replicate_succ, Array.replicate_zero, List.push_toArray, List.append_toArray, List.nil_append, List.cons_append]
  gi_wp2_with fail
  refine ⟨trivial, (cor_made _ _ _ _ _).mono ?_⟩
  rintro e w' ⟨rfl, rfl⟩
  gi_wp2_with fail
  have B0 := blk_new w #[.slice a n cap] 30 rfl
  have B1 := blk_new (w.alloc (.cells #[.slice a n cap] 30)) #[.int .i64 x, .int .i64 y, .int .i64 d] 50 (b := w.heap.size + 1) (by simp)
  have B2 := blk_new ((w.alloc (.cells #[.slice a n cap] 30)).alloc (.cells #[.int .i64 x, .int .i64 y, .int .i64 d] 50)) #[.bool false] 4 (b := w.heap.size + 1 + 1) (by simp)
  have B3 := blk_new (((w.alloc (.cells #[.slice a n cap] 30)).alloc (.cells #[.int .i64 x, .int .i64 y, .int .i64 d] 50)).alloc (.cells #[.bool false] 4)) #[.slice a n cap] 30 (b := w.heap.size + 1 + 1 + 1) (by simp)
  have e3 := below_one (((w.alloc (.cells #[.slice a n cap] 30)).alloc (.cells #[.int .i64 x, .int .i64 y, .int .i64 d] 50)).alloc (.cells #[.bool false] 4)) (.cells #[.slice a n cap] 30)
  have e2 := below_bx2 (below_one ((w.alloc (.cells #[.slice a n cap] 30)).alloc (.cells #[.int .i64 x, .int .i64 y, .int .i64 d] 50)) (.cells #[.bool false] 4)) (.cells #[.slice a n cap] 30)
  have bw := below_bx2 (below_bx2 (below_bx2 (below_one w (.cells #[.slice a n cap] 30)) (.cells #[.int .i64 x, .int .i64 y, .int .i64 d] 50)) (.cells #[.bool false] 4)) (.cells #[.slice a n cap] 30)
  replace B2 := B2.to e3
  replace B1 := B1.to e2
  have hsz : ((((w.alloc (.cells #[.slice a n cap] 30)).alloc (.cells #[.int .i64 x, .int .i64 y, .int .i64 d] 50)).alloc (.cells #[.bool false] 4)).alloc (.cells #[.slice a n cap] 30)).heap.size = w.heap.size + 4 := by simp
  clear e2 e3 B0
  generalize (((w.alloc (.cells #[.slice a n cap] 30)).alloc (.cells #[.int .i64 x, .int .i64 y, .int .i64 d] 50)).alloc (.cells #[.bool false] 4)).alloc (.cells #[.slice a n cap] 30) = W0 at *
  refine wpIn_rangeFunc_ownH rfl (by omega) (gf := 70) (lb := #[.pointer (some ⟨w.heap.size + 1 + 1 + 1, 0, none⟩)]) rfl trivial (enters_of Try.func70 (by kernel_rfl) rfl)
    (cor_stops (3 - 1) (by omega) (w.heap.size + 1 + 1 + 1) n cap a ps w W0 hl hn h64 hA bw B3) KpC.t (KpC.b bw.size B3.lt) (Below.refl _ _) (fun _ => rfl)
    (fun pre W => (Blk W (w.heap.size + 1) #[.int .i64 x, .int .i64 y, .int .i64 d] 50 ∧ Blk W (w.heap.size + 1 + 1) #[.bool false] 4) ∧ (∀ c ∈ pre, c.1.2 ≠ ⟨x, y, d⟩) ∧ Below w.heap.size w W ∧ w.heap.size + 4 ≤ W.heap.size)
    (fun c pre W => Blk W (w.heap.size + 1 + 1) #[.bool true] 4 ∧ (c = .ret ∧ ∃ c ∈ pre, c.1.2 = ⟨x, y, d⟩) ∧ Below w.heap.size w W)
    (OwnFrom.and (OwnFrom.and (Own.from (blk_own _ _ _) _) (Own.from (blk_own _ _ _) _)) (OwnFrom.and (ownFrom_pure _ _) (OwnFrom.and (ownFrom_below (Nat.le_refl _) bw.size) (ownFrom_size _ _))))
    (fun c => OwnFrom.and (Own.from (blk_own _ _ _) _) (OwnFrom.and (ownFrom_pure _ (fun (pre : List Cnr) => c = .ret ∧ ∃ c ∈ pre, c.1.2 = (⟨x, y, d⟩ : H3))) (ownFrom_below (Nat.le_refl _) bw.size)))
    ⟨⟨B1, B2⟩, by simp, bw, by omega⟩
    (fun c a' W => ∃ Bx, w.heap.size + 4 ≤ Bx ∧ Blk W Bx #[.int .i64 c.1.2.a, .int .i64 c.1.2.b, .int .i64 c.1.2.c] 50 ∧ a' = { tmps := #[.agg #[.slice a n cap], .agg #[.int .i64 x, .int .i64 y, .int .i64 d], .pointer (some ⟨w.heap.size, 0, none⟩), .pointer (some ⟨w.heap.size + 1, 0, none⟩), .pointer (some ⟨w.heap.size + 1 + 1, 0, none⟩), undef, .pointer (some ⟨Bx, 0, none⟩), .agg #[.slice a n cap], .func (.func 70) #[] #[.pointer (some ⟨w.heap.size + 1 + 1 + 1, 0, none⟩)], .int .i64 (c.1.1 : Int), .agg #[.int .i64 c.1.2.a, .int .i64 c.1.2.b, .int .i64 c.1.2.c], undef, undef, undef], defers := [] })
    ?hAx ?assign ?body ?done ?stop
  case hAx =>
    rintro c a' u X Y row ⟨Bx, h1, h2, h3⟩ hg hr
    exact ⟨Bx, h1, Own.from (blk_own (β := Unit) Bx _ _) _ u X Y row h2 hg hr, h3⟩
  case assign =>
    rintro l pre c W K ⟨⟨i1, i2⟩, i3, i4, i5⟩ hK
    gi_wp2
    have bn := below_one W (.cells #[.int .i64 c.1.2.a, .int .i64 c.1.2.b, .int .i64 c.1.2.c] 50)
    exact hK _ _ ((grown_keeps bn).from _) (KpC.of bn i4.size (by have := i2.lt; omega)) ⟨⟨i1.to bn, i2.to bn⟩, i3, below_to i4 bn, Nat.le_trans i5 bn.size⟩ ⟨W.heap.size, by omega, blk_new W _ _ rfl, rfl⟩
  case body =>
    rintro l pre c a' W hl' _ ⟨⟨i1, i2⟩, i3, i4, i5⟩ ⟨Bx, hBx, iX, rfl⟩ _
    have c1 := i1.cell0 (i := 0) rfl
    have c2 := i1.cell0 (i := 1) rfl
    have c3 := i1.cell0 (i := 2) rfl
    have x1 := iX.cell0 (i := 0) rfl
    have x2 := iX.cell0 (i := 1) rfl
    have x3 := iX.cell0 (i := 2) rfl
    have hd : 1 ≤ 3 - 1 - 1 := by omega
    gi_wp2_with fail
    refine ⟨trivial, (CallsIn.inRound l (callsIn_wide.2 (impl_same _ _ _ _ _ _ _))).mono ?_⟩
    rintro e w5 ⟨rfl, bl5⟩
    have j2 := i2.to bl5
    have k2 := j2.cell0 (i := 0) rfl
    have f2 := j2.free 0
    have HI := Lib.hid (show KeepsFrom W0.heap.size W w5 ∧ KpC w.heap.size (w.heap.size + 1 + 1 + 1) W w5 from ⟨(grown_keeps bl5).from _, KpC.of bl5 i4.size (by omega)⟩)
    have HJ := Lib.hid (show Blk w5 (w.heap.size + 1) #[.int .i64 x, .int .i64 y, .int .i64 d] 50 ∧ Below w.heap.size w w5 ∧ w.heap.size + 4 ≤ w5.heap.size from ⟨i1.to bl5, below_to i4 bl5, Nat.le_trans i5 bl5.size⟩)
    cases hr : sameS c.1.2.a c.1.2.b c.1.2.c x y d with
    | true =>
      have HR := Lib.hid (same_iff.1 hr)
      clear hr
      gi_wp2
      exact ⟨HI.out.1.trans ((KeepsOthers.setCell _ _ _).from _), blk_set j2 _, ⟨rfl, c, by simp, HR.out⟩, HJ.out.2.1.setCell (p := ⟨w.heap.size + 1 + 1, 0, none⟩) (by simp; omega) _⟩
    | false =>
      have HR := Lib.hid (show ¬ (⟨c.1.2.a, c.1.2.b, c.1.2.c⟩ : H3) = ⟨x, y, d⟩ from fun e => by rw [same_iff.2 e] at hr; cases hr)
      clear hr
      gi_wp2
      exact ⟨HI.out.1, HI.out.2, ⟨HJ.out.1, j2⟩, fun c' hc' => (List.mem_append.1 hc').elim (i3 c') (fun e => by simp at e; subst e; exact HR.out), HJ.out.2⟩
  case done =>
    rintro D ys W hD rfl ⟨⟨i1, i2⟩, i3, i4, i5⟩ hK
    have k2 := i2.cell0 (i := 0) rfl
    have f2 := i2.free 0
    have HN := Lib.hid (show isC ps ⟨x, y, d⟩ = false from isC_no i3)
    gi_wp2
    have hK' := (KeepsOthers.setCell W ⟨w.heap.size + 1 + 1, 0, none⟩ (.bool false)).same D _ hK rfl
    refine ⟨by simp, .inl ⟨_, _, rfl, run_takeDeferred hK', ?_⟩⟩
    have hc5 := cell_kept ((blk_set i2 (.bool false)).cell0 (i := 0) rfl) (grownBy_putObj' _ D (.deferred none)) (fun r e => by cases e; exact ⟨_, hK', rfl⟩)
    refine ⟨.bool false, ?_, by rw [HN.out], behind (i4.setCell (p := ⟨w.heap.size + 1 + 1, 0, none⟩) (by simp; omega) _) hK' hD bw.size⟩
    simp [results, Try.results28, go_sem, hc5]
  case stop =>
    rintro D c pre W hD ⟨k, hk, rfl⟩ ⟨i2, ⟨rfl, c', hc', he⟩, i4⟩ hK
    have HN := Lib.hid (show isC ps ⟨x, y, d⟩ = true from isC_yes hk hc' he)
    gi_wp2
    refine ⟨by simp, .inl ⟨_, _, rfl, run_takeDeferred hK, ?_⟩⟩
    have hc5 := cell_kept (i2.cell0 (i := 0) rfl) (grownBy_putObj' _ D (.deferred none)) (fun r e => by cases e; exact ⟨_, hK, rfl⟩)
    refine ⟨.bool true, ?_, by rw [HN.out], behind i4 hK hD bw.size⟩
    simp [results, Try.results28, go_sem, hc5]
end Go.Proofs.Ytckfmgldgjnepaa
