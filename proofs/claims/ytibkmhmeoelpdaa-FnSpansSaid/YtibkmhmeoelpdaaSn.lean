/- Spans of inputs that came in: toSpan, eqSpan; a struct of two fractions by value. -/
import Derived.Test.YtibkmhmeoelpdaaFa
import Derived.Test.YtibkmhmeoelpdaaKz
import Derived.Test.YtibkmhmeoelpdaaYz
namespace Go.Proofs.Ytibkmhmeoelpdaa
open Go.ChangeShapes Go.WideShapes Go.ChangeAt Go.RowKit Go.Deep
open Geo (H3)
open Go.RowKit

theorem array4' {α : Type} {cs : Array α} (h : cs.size = 4) : ∃ c0 c1 c2 c3, cs = #[c0, c1, c2, c3] := by
  obtain ⟨l⟩ := cs
  match l, h with
  | [c0, c1, c2, c3], _ => exact ⟨c0, c1, c2, c3, rfl⟩
/-- a struct of two structs of two fields by value -/
theorem open_span {H : Type} {enc : TypeId × Value → H} {P : Program} {w : World} {base : Nat} {spare : Nat → Bool} {held : Bool} {r : Reach} {b0 : Nat} {t : TypeId} {f0 f1 g0 g1 : Field} {v : Value} {d : DataW H} {p : List MemPlace}
    (hs : P.underlying t = some (.struct #[f0, f1])) (h0 : P.underlying f0.type = some (.struct #[g0, g1])) (h1 : P.underlying f1.type = some (.struct #[g0, g1]))
    (ho : f0.offset = 0 ∧ f1.offset = 2 ∧ P.cellsOf f0.type = 2 ∧ P.cellsOf f1.type = 2 ∧ g0.offset = 0 ∧ g1.offset = 1 ∧ P.cellsOf g0.type = 1 ∧ P.cellsOf g1.type = 1) (hC : P.cellsOf t = 4) (hv : Value.okWide P w r b0 t v) (h : DataW.Trod enc P w base spare held t v d p) :
    ∃ (v0 v1 v2 v3 : Value) (y0 y1 y2 y3 : DataW H × List MemPlace) (m n : Nat), v = .agg #[v0, v1, v2, v3] ∧ DataW.trod enc P w base spare held m g0.type [v0] = some y0 ∧ DataW.trod enc P w base spare held m g1.type [v1] = some y1 ∧ DataW.trod enc P w base spare held n g0.type [v2] = some y2 ∧ DataW.trod enc P w base spare held n g1.type [v3] = some y3 := by
  obtain ⟨cs, rfl, hsz⟩ := okWide_struct hs hv
  obtain ⟨c0, c1, c2, c3, rfl⟩ := array4' (hsz.trans hC)
  obtain ⟨fuel, hf⟩ := h
  obtain ⟨xs, n, _, _, _, hlen, hg⟩ := DataW.trod_struct hs hf
  obtain ⟨o0, o1, k0, k1, o2, o3, k2, k3⟩ := ho
  match xs, hlen with
  | [x0, x1], _ =>
    have e0 := hg 0 f0 rfl
    have e1 := hg 1 f1 rfl
    rw [o0, k0] at e0
    rw [o1, k1] at e1
    simp only [Value.cells, List.drop_zero, List.take_succ_cons, List.take_zero, List.drop_succ_cons, List.getElem?_cons_zero, List.getElem?_cons_succ] at e0 e1
    obtain ⟨ys, m, _, _, _, hly, hy⟩ := DataW.trod_struct h0 e0
    obtain ⟨zs, m', _, _, _, hlz, hz⟩ := DataW.trod_struct h1 e1
    match ys, hly, zs, hlz with
    | [y0, y1], _, [z0, z1], _ =>
      refine ⟨c0, c1, c2, c3, y0, y1, z0, z1, m, m', rfl, ?_, ?_, ?_, ?_⟩
      · simpa [o2, k2] using hy 0 g0 rfl
      · simpa [o3, k3] using hy 1 g1 rfl
      · simpa [o2, k2] using hz 0 g0 rfl
      · simpa [o3, k3] using hz 1 g1 rfl
set_option maxHeartbeats 1600000 in
theorem to_span (a b c d : Int) (w : World) :
    Calls Try.prog 11 #[.agg #[.int .i64 a, .int .i64 b, .int .i64 c, .int .i64 d]] w fun e w' => e = .returned (.agg #[.int .i64 a, .int .i64 b, .int .i64 c, .int .i64 d]) ∧ Below w.heap.size w w' := by
  have bV := below_bx2 (below_bx2 (below_one w (.cells #[.int .i64 a, .int .i64 b, .int .i64 c, .int .i64 d] 25)) (.cells #[.int .i64 0, .int .i64 0, .int .i64 0, .int .i64 0] 29)) (.cells #[.int .i64 0, .int .i64 0, .int .i64 0, .int .i64 0] 29)
  have K0 := ((blk_new w #[.int .i64 a, .int .i64 b, .int .i64 c, .int .i64 d] 25 (b := w.heap.size) (by simp)).to (below_one _ (.cells #[.int .i64 0, .int .i64 0, .int .i64 0, .int .i64 0] 29))).to (below_one _ (.cells #[.int .i64 0, .int .i64 0, .int .i64 0, .int .i64 0] 29))
  have K1 := (blk_new (w.alloc (.cells #[.int .i64 a, .int .i64 b, .int .i64 c, .int .i64 d] 25)) #[.int .i64 0, .int .i64 0, .int .i64 0, .int .i64 0] 29 (b := w.heap.size + 1) (by simp)).to (below_one _ (.cells #[.int .i64 0, .int .i64 0, .int .i64 0, .int .i64 0] 29))
  have K2 := blk_new ((w.alloc (.cells #[.int .i64 a, .int .i64 b, .int .i64 c, .int .i64 d] 25)).alloc (.cells #[.int .i64 0, .int .i64 0, .int .i64 0, .int .i64 0] 29)) #[.int .i64 0, .int .i64 0, .int .i64 0, .int .i64 0] 29 (b := w.heap.size + 1 + 1) (by simp)
  have a0 := K0.cell0 (i := 0) (v := .int .i64 a) rfl
  have a1 := K0.cell0 (i := 1) (v := .int .i64 b) rfl
  go_enter Try.func11, Try.ntmps11
  go_wp2_with fail
  generalize (((w.alloc (.cells #[.int .i64 a, .int .i64 b, .int .i64 c, .int .i64 d] 25)).alloc (.cells #[.int .i64 0, .int .i64 0, .int .i64 0, .int .i64 0] 29)).alloc (.cells #[.int .i64 0, .int .i64 0, .int .i64 0, .int .i64 0] 29)) = V at *
  refine (to_ratio a b _).mono ?_
  rintro e w1 ⟨rfl, bl1⟩
  have b1 := below_to bV bl1
  have L0 := K0.to bl1
  have L1 := K1.to bl1
  have L2 := K2.to bl1
  clear a0 a1 K0 K1 K2 bV bl1
  have f0 := L2.free 0
  have f1 := L2.free 1
  have f2 := L2.free 2
  have f3 := L2.free 3
  have z0 := L2.cell0 (i := 0) (v := .int .i64 0) rfl
  have z1 := L2.cell0 (i := 1) (v := .int .i64 0) rfl
  have c2 := L0.cell0 (i := 2) (v := .int .i64 c) rfl
  have c3 := L0.cell0 (i := 3) (v := .int .i64 d) rfl
  go_wp2_with fail
  have b2 := (b1.setCell (p := ⟨w.heap.size + 1 + 1, 0, none⟩) (Nat.le_add_right _ 2) (.int .i64 a)).setCell (p := ⟨w.heap.size + 1 + 1, 1, none⟩) (Nat.le_add_right _ 2) (.int .i64 b)
  have M2 : Blk ((w1.setCell ⟨w.heap.size + 1 + 1, 0, none⟩ (.int .i64 a)).setCell ⟨w.heap.size + 1 + 1, 1, none⟩ (.int .i64 b)) (w.heap.size + 1 + 1) #[.int .i64 a, .int .i64 b, .int .i64 0, .int .i64 0] 29 := heap_setCell_same _ _ 1 _ _ _ (heap_setCell_same _ _ 0 _ _ _ L2)
  have M1 : Blk ((w1.setCell ⟨w.heap.size + 1 + 1, 0, none⟩ (.int .i64 a)).setCell ⟨w.heap.size + 1 + 1, 1, none⟩ (.int .i64 b)) (w.heap.size + 1) #[.int .i64 0, .int .i64 0, .int .i64 0, .int .i64 0] 29 := blk_far (blk_far L1 (p := ⟨w.heap.size + 1 + 1, 0, none⟩) _ (by simp)) (p := ⟨w.heap.size + 1 + 1, 1, none⟩) _ (by simp)
  generalize (w1.setCell ⟨w.heap.size + 1 + 1, 0, none⟩ (.int .i64 a)).setCell ⟨w.heap.size + 1 + 1, 1, none⟩ (.int .i64 b) = U at *
  refine (to_ratio c d _).mono ?_
  rintro e w2 ⟨rfl, bl2⟩
  have b3 := below_to b2 bl2
  have N2 := M2.to bl2
  have N1 := M1.to bl2
  clear f0 f1 f2 f3 z0 z1 c2 c3
  have z0 := N2.cell0 (i := 0) (v := .int .i64 a) rfl
  have z1 := N2.cell0 (i := 1) (v := .int .i64 b) rfl
  have z2 := N2.cell0 (i := 2) (v := .int .i64 0) rfl
  have z3 := N2.cell0 (i := 3) (v := .int .i64 0) rfl
  have f2 := N2.free 2
  have f3 := N2.free 3
  have y0 := N1.cell0 (i := 0) (v := .int .i64 0) rfl
  have y1 := N1.cell0 (i := 1) (v := .int .i64 0) rfl
  have y2 := N1.cell0 (i := 2) (v := .int .i64 0) rfl
  have y3 := N1.cell0 (i := 3) (v := .int .i64 0) rfl
  have g0 := N1.free 0
  have g1 := N1.free 1
  have g2 := N1.free 2
  have g3 := N1.free 3
  go_wp2_with fail
  exact bodyPost_ret (v := .agg #[.int .i64 a, .int .i64 b, .int .i64 c, .int .i64 d]) (by simp [results, Try.results11, go_sem, y0, y1, y2, y3]) rfl ⟨rfl, ((((((b3.setCell (p := ⟨w.heap.size + 1 + 1, 2, none⟩) (Nat.le_add_right _ 2) (.int .i64 c)).setCell (p := ⟨w.heap.size + 1 + 1, 3, none⟩) (Nat.le_add_right _ 2) (.int .i64 d)).setCell (p := ⟨w.heap.size + 1, 0, none⟩) (Nat.le_add_right _ 1) (.int .i64 a)).setCell (p := ⟨w.heap.size + 1, 1, none⟩) (Nat.le_add_right _ 1) (.int .i64 b)).setCell (p := ⟨w.heap.size + 1, 2, none⟩) (Nat.le_add_right _ 1) (.int .i64 c)).setCell (p := ⟨w.heap.size + 1, 3, none⟩) (Nat.le_add_right _ 1) (.int .i64 d))⟩
theorem eq_frac (n d : Int) (w : World) :
    Calls Try.prog 18 #[.agg #[.int .i64 n, .int .i64 d], .agg #[.int .i64 n, .int .i64 d]] w fun e w' => e = .returned (.bool true) ∧ Below w.heap.size w w' := by
  go_enter Try.func18, Try.ntmps18
  go_wp2
  go_ret
  exact ⟨rfl, below_bx2 (below_one _ _) _⟩
set_option maxHeartbeats 1600000 in
theorem eq_span (a b c d : Int) (w : World) :
    Calls Try.prog 21 #[.agg #[.int .i64 a, .int .i64 b, .int .i64 c, .int .i64 d], .agg #[.int .i64 a, .int .i64 b, .int .i64 c, .int .i64 d]] w fun e w' => e = .returned (.bool true) ∧ Below w.heap.size w w' := by
  have bV := below_bx2 (below_one w (.cells #[.int .i64 a, .int .i64 b, .int .i64 c, .int .i64 d] 29)) (.cells #[.int .i64 a, .int .i64 b, .int .i64 c, .int .i64 d] 29)
  have K0 := (blk_new w #[.int .i64 a, .int .i64 b, .int .i64 c, .int .i64 d] 29 (b := w.heap.size) (by simp)).to (below_one _ (.cells #[.int .i64 a, .int .i64 b, .int .i64 c, .int .i64 d] 29))
  have K1 := blk_new (w.alloc (.cells #[.int .i64 a, .int .i64 b, .int .i64 c, .int .i64 d] 29)) #[.int .i64 a, .int .i64 b, .int .i64 c, .int .i64 d] 29 (b := w.heap.size + 1) (by simp)
  have a0 := K0.cell0 (i := 0) (v := .int .i64 a) rfl
  have e0 := K1.cell0 (i := 0) (v := .int .i64 a) rfl
  have a1 := K0.cell0 (i := 1) (v := .int .i64 b) rfl
  have e1 := K1.cell0 (i := 1) (v := .int .i64 b) rfl
  go_enter Try.func21, Try.ntmps21
  go_wp2_with fail
  generalize ((w.alloc (.cells #[.int .i64 a, .int .i64 b, .int .i64 c, .int .i64 d] 29)).alloc (.cells #[.int .i64 a, .int .i64 b, .int .i64 c, .int .i64 d] 29)) = V at *
  refine (eq_frac a b _).mono ?_
  rintro e w1 ⟨rfl, bl1⟩
  have b1 := below_to bV bl1
  have L0 := K0.to bl1
  have L1 := K1.to bl1
  clear a0 a1 e0 e1 K0 K1 bV bl1
  have a2 := L0.cell0 (i := 2) (v := .int .i64 c) rfl
  have e2 := L1.cell0 (i := 2) (v := .int .i64 c) rfl
  have a3 := L0.cell0 (i := 3) (v := .int .i64 d) rfl
  have e3 := L1.cell0 (i := 3) (v := .int .i64 d) rfl
  go_wp2_with fail
  refine (eq_frac c d _).mono ?_
  rintro e w2 ⟨rfl, bl2⟩
  have b2 := below_to b1 bl2
  go_wp2
  go_ret
  exact ⟨rfl, b2⟩
end Go.Proofs.Ytibkmhmeoelpdaa
