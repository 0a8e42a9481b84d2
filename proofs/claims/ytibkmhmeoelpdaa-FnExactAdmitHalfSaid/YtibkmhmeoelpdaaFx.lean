/- The tops of the bounds at a state, over the translation: l11Top of the model; imageOf, slopeOf, topAt of the program. -/
import Derived.Test.YtibkmhmeoelpdaaFa
import Derived.Test.YtibkmhmeoelpdaaKm
import Derived.Test.YtibkmhmeoelpdaaYz
namespace Go.Proofs.Ytibkmhmeoelpdaa
open Go.RowKit
open Geo (H3)

/-- what a half plane leaves to the input at a state, behind the map -/
def topN (hA hB hC X Y d : Int) : Int := hC * d - hA * X - hB * Y
theorem top_in {hA hB hC X Y d : Int} (h : okH hA hB hC = true) (hX : -4000000000 ≤ X ∧ X ≤ 4000000000) (hY : -4000000000 ≤ Y ∧ Y ≤ 4000000000) (hd : 0 ≤ d ∧ d ≤ 2000000) :
    (-1000000000000000000 ≤ hC * d ∧ hC * d ≤ 1000000000000000000) ∧ (-200000000000000 ≤ hA * X ∧ hA * X ≤ 200000000000000) ∧ (-200000000000000 ≤ hB * Y ∧ hB * Y ≤ 200000000000000) ∧ (-200000000000000 ≤ hC * d ∧ hC * d ≤ 200000000000000) := by
  obtain ⟨i1, i2, i3, i4, i5, i6, _⟩ := (okH_iff _ _ _).1 h
  have m5 := mul_in hC d 100000000 2000000 (by omega) (by omega) (by omega) (by omega)
  have m6 := mul_in hA X 50000 4000000000 (by omega) (by omega) (by omega) (by omega)
  have m7 := mul_in hB Y 50000 4000000000 (by omega) (by omega) (by omega) (by omega)
  omega
set_option maxRecDepth 20000 in
set_option maxHeartbeats 1600000 in
theorem impl_slo (am : Option Addr) (nm cm : Nat) (q bx cy lo hi : Int) (an : Option Addr) (nn cn : Nat) (al : Option Addr) (nl cl : Nat) (hA hB hC : Int) (w : World) (hx : -100 ≤ bx ∧ bx ≤ 100) (hy : -100 ≤ cy ∧ cy ≤ 100) (hh : okH hA hB hC = true) :
    Calls Try.prog 57 #[.agg #[.slice am nm cm, .int .i64 q, .int .i64 bx, .int .i64 cy, .int .i64 lo, .int .i64 hi, .slice an nn cn, .slice al nl cl], .agg #[.int .i64 hA, .int .i64 hB, .int .i64 hC]] w fun e w' => e = .returned (.int .i64 (hA * bx + hB * cy)) ∧ Below w.heap.size w w' := by
  have bV := below_bx2 (below_one w (.cells #[.slice am nm cm, .int .i64 q, .int .i64 bx, .int .i64 cy, .int .i64 lo, .int .i64 hi, .slice an nn cn, .slice al nl cl] 58)) (.cells #[.int .i64 hA, .int .i64 hB, .int .i64 hC] 60)
  have K0 := (blk_new w #[.slice am nm cm, .int .i64 q, .int .i64 bx, .int .i64 cy, .int .i64 lo, .int .i64 hi, .slice an nn cn, .slice al nl cl] 58 (b := w.heap.size) (by simp)).to (below_one _ (.cells #[.int .i64 hA, .int .i64 hB, .int .i64 hC] 60))
  have K1 := blk_new (w.alloc (.cells #[.slice am nm cm, .int .i64 q, .int .i64 bx, .int .i64 cy, .int .i64 lo, .int .i64 hi, .slice an nn cn, .slice al nl cl] 58)) #[.int .i64 hA, .int .i64 hB, .int .i64 hC] 60 (b := w.heap.size + 1) (by simp)
  obtain ⟨i1, i2, i3, i4, i5, i6, _⟩ := (okH_iff _ _ _).1 hh
  have m0 := mul_in hA bx 50000 100 (by omega) (by omega) hx.1 hx.2
  have m1 := mul_in hB cy 50000 100 (by omega) (by omega) hy.1 hy.2
  clear hh hx hy i1 i2 i3 i4 i5 i6
  generalize e0 : hA * bx = u0 at *
  generalize e1 : hB * cy = u1 at *
  have v0 : IntKind.i64.wrap u0 = u0 := IntWalk.i64_in _ (by omega)
  have v1 : IntKind.i64.wrap u1 = u1 := IntWalk.i64_in _ (by omega)
  have v2 : IntKind.i64.wrap (u0 + u1) = u0 + u1 := IntWalk.i64_in _ (by omega)
  have c2 := K0.c8_2
  have c3 := K0.c8_3
  have h0 := K1.cell0 (i := 0) (v := .int .i64 hA) rfl
  have h1 := K1.cell0 (i := 1) (v := .int .i64 hB) rfl
  go_enter Try.func57, Try.ntmps57
  go_wp2_with fail
  go_ret
  exact ⟨rfl, bV⟩
end Go.Proofs.Ytibkmhmeoelpdaa
