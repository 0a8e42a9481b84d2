/- Spans of inputs that came in: toSpan, eqSpan; a struct of two fractions by value. -/
import Derived.Test.YtibkmhmeoelpdaaGreatFa
import Derived.Test.YtibkmhmeoelpdaaGreatKz
import Derived.Test.YtibkmhmeoelpdaaGreatYz
namespace Go.Proofs.YtibkmhmeoelpdaaGreat
open Go.ChangeShapes Go.WideShapes Go.ChangeAt Go.RowKit Go.Deep
open Geo (H3)
open Go.RowKit
theorem eq_frac (n d : Int) (w : World) :
    Calls Tryz.prog 50 #[.agg #[.int .i64 n, .int .i64 d], .agg #[.int .i64 n, .int .i64 d]] w fun e w' => e = .returned (.bool true) ∧ Below w.heap.size w w' := by
  go_enter Tryz.func50, Tryz.ntmps50
  go_wp2
  go_ret
  exact ⟨rfl, below_bx2 (below_one _ _) _⟩
set_option maxHeartbeats 1600000 in
theorem eq_span (a b c d : Int) (w : World) :
    Calls Tryz.prog 14 #[.agg #[.int .i64 a, .int .i64 b, .int .i64 c, .int .i64 d], .agg #[.int .i64 a, .int .i64 b, .int .i64 c, .int .i64 d]] w fun e w' => e = .returned (.bool true) ∧ Below w.heap.size w w' := by
  have bV := below_bx2 (below_one w (.cells #[.int .i64 a, .int .i64 b, .int .i64 c, .int .i64 d] 35)) (.cells #[.int .i64 a, .int .i64 b, .int .i64 c, .int .i64 d] 35)
  have K0 := (blk_new w #[.int .i64 a, .int .i64 b, .int .i64 c, .int .i64 d] 35 (b := w.heap.size) (by simp)).to (below_one _ (.cells #[.int .i64 a, .int .i64 b, .int .i64 c, .int .i64 d] 35))
  have K1 := blk_new (w.alloc (.cells #[.int .i64 a, .int .i64 b, .int .i64 c, .int .i64 d] 35)) #[.int .i64 a, .int .i64 b, .int .i64 c, .int .i64 d] 35 (b := w.heap.size + 1) (by simp)
  have a0 := K0.cell0 (i := 0) (v := .int .i64 a) rfl
  have e0 := K1.cell0 (i := 0) (v := .int .i64 a) rfl
  have a1 := K0.cell0 (i := 1) (v := .int .i64 b) rfl
  have e1 := K1.cell0 (i := 1) (v := .int .i64 b) rfl
  go_enter Tryz.func14, Tryz.ntmps14
  go_wp2_with fail
  generalize ((w.alloc (.cells #[.int .i64 a, .int .i64 b, .int .i64 c, .int .i64 d] 35)).alloc (.cells #[.int .i64 a, .int .i64 b, .int .i64 c, .int .i64 d] 35)) = V at *
  refine (eq_frac a b _).mono ?_
  rintro e w1 ⟨rfl, bl1⟩
  have b1 := below_to bV bl1
  have L0 := K0.to bl1
  have L1 := K1.to bl1
  clear a0 a1 e0 e1 K0 K1 bV bl1
  have a2 := L0.cell0 (i := 2) (v := .int .i64 c) rfl
  have e2 := L1.cell0 (i := 2) (v := .int .i64 c) rfl
  have a3 := L0.cell0 (i := 3) (v := .int .i64 d) rfl
  have e3 := L1.cell0 (i := 3) (v := .int .i64 d) rfl
  go_wp2_with fail
  refine (eq_frac c d _).mono ?_
  rintro e w2 ⟨rfl, bl2⟩
  have b2 := below_to b1 bl2
  go_wp2
  go_ret
  exact ⟨rfl, b2⟩
end Go.Proofs.YtibkmhmeoelpdaaGreat
