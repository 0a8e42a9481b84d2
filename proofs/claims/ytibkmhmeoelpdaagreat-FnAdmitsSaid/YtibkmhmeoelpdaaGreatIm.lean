/- The tops of the bounds at a state, over the translation: l11Top of the model; imageOf, slopeOf, topAt of the program. imageOf of the program, over the translation. -/
import Derived.Test.YtibkmhmeoelpdaaGreatFa
import Derived.Test.YtibkmhmeoelpdaaGreatKm
import Derived.Test.YtibkmhmeoelpdaaGreatYz
import Derived.BigRegion
namespace Go.Proofs.YtibkmhmeoelpdaaGreat
open Go.RowKit
open Geo (H3)

/-- what a half plane leaves to the input at a state, behind the map -/
def topN (hA hB hC X Y d : Int) : Int := hC * d - hA * X - hB * Y
theorem top_in {hA hB hC X Y d : Int} (h : okH hA hB hC = true) (hX : -4000000000 ≤ X ∧ X ≤ 4000000000) (hY : -4000000000 ≤ Y ∧ Y ≤ 4000000000) (hd : 0 ≤ d ∧ d ≤ 2000000) :
    (-1000000000000000000 ≤ hC * d ∧ hC * d ≤ 1000000000000000000) ∧ (-200000000000000 ≤ hA * X ∧ hA * X ≤ 200000000000000) ∧ (-200000000000000 ≤ hB * Y ∧ hB * Y ≤ 200000000000000) ∧ (-200000000000000 ≤ hC * d ∧ hC * d ≤ 200000000000000) := by
  obtain ⟨i1, i2, i3, i4, i5, i6, _⟩ := (okH_iff _ _ _).1 h
  have m5 := mul_in hC d 100000000 2000000 (by omega) (by omega) (by omega) (by omega)
  have m6 := mul_in hA X 50000 4000000000 (by omega) (by omega) (by omega) (by omega)
  have m7 := mul_in hB Y 50000 4000000000 (by omega) (by omega) (by omega) (by omega)
  omega
set_option maxRecDepth 20000 in
set_option maxHeartbeats 1600000 in
theorem impl_slo (am : Option Addr) (nm cm : Nat) (q bx cy lo hi : Int) (an : Option Addr) (nn cn : Nat) (al : Option Addr) (nl cl : Nat) (hA hB hC : Int) (w : World) (hx : -100 ≤ bx ∧ bx ≤ 100) (hy : -100 ≤ cy ∧ cy ≤ 100) (hh : okH hA hB hC = true) :
    Calls Tryz.prog 103 #[.agg #[.slice am nm cm, .int .i64 q, .int .i64 bx, .int .i64 cy, .int .i64 lo, .int .i64 hi, .slice an nn cn, .slice al nl cl], .agg #[.int .i64 hA, .int .i64 hB, .int .i64 hC]] w fun e w' => e = .returned (.int .i64 (hA * bx + hB * cy)) ∧ Below w.heap.size w w' := by
  have bV := below_bx2 (below_one w (.cells #[.slice am nm cm, .int .i64 q, .int .i64 bx, .int .i64 cy, .int .i64 lo, .int .i64 hi, .slice an nn cn, .slice al nl cl] 42)) (.cells #[.int .i64 hA, .int .i64 hB, .int .i64 hC] 104)
  have K0 := (blk_new w #[.slice am nm cm, .int .i64 q, .int .i64 bx, .int .i64 cy, .int .i64 lo, .int .i64 hi, .slice an nn cn, .slice al nl cl] 42 (b := w.heap.size) (by simp)).to (below_one _ (.cells #[.int .i64 hA, .int .i64 hB, .int .i64 hC] 104))
  have K1 := blk_new (w.alloc (.cells #[.slice am nm cm, .int .i64 q, .int .i64 bx, .int .i64 cy, .int .i64 lo, .int .i64 hi, .slice an nn cn, .slice al nl cl] 42)) #[.int .i64 hA, .int .i64 hB, .int .i64 hC] 104 (b := w.heap.size + 1) (by simp)
  obtain ⟨i1, i2, i3, i4, i5, i6, _⟩ := (okH_iff _ _ _).1 hh
  have m0 := mul_in hA bx 50000 100 (by omega) (by omega) hx.1 hx.2
  have m1 := mul_in hB cy 50000 100 (by omega) (by omega) hy.1 hy.2
  clear hh hx hy i1 i2 i3 i4 i5 i6
  generalize e0 : hA * bx = u0 at *
  generalize e1 : hB * cy = u1 at *
  have v0 : IntKind.i64.wrap u0 = u0 := IntWalk.i64_in _ (by omega)
  have v1 : IntKind.i64.wrap u1 = u1 := IntWalk.i64_in _ (by omega)
  have v2 : IntKind.i64.wrap (u0 + u1) = u0 + u1 := IntWalk.i64_in _ (by omega)
  have c2 := K0.c8_2
  have c3 := K0.c8_3
  have h0 := K1.cell0 (i := 0) (v := .int .i64 hA) rfl
  have h1 := K1.cell0 (i := 1) (v := .int .i64 hB) rfl
  go_enter Tryz.func103, Tryz.ntmps103
  go_wp2_with fail
  go_ret
  exact ⟨rfl, bV⟩
set_option maxRecDepth 20000 in
set_option maxHeartbeats 1600000 in
theorem impl_top (hA hB hC X Y d : Int) (w : World) (hh : okH hA hB hC = true) (hX : -4000000000 ≤ X ∧ X ≤ 4000000000) (hY : -4000000000 ≤ Y ∧ Y ≤ 4000000000) (hd : 1 ≤ d ∧ d ≤ 2000000) :
    Calls Tryz.prog 104 #[.agg #[.int .i64 hA, .int .i64 hB, .int .i64 hC], .agg #[.int .i64 X, .int .i64 Y, .int .i64 d]] w fun e w' => e = .returned (.agg #[.int .i64 (ofN (topN hA hB hC X Y d) d), .int .i64 (ofD (topN hA hB hC X Y d) d)]) ∧ Below w.heap.size w w' := by
  have bV := below_bx2 (below_bx2 (below_one w (.cells #[.int .i64 hA, .int .i64 hB, .int .i64 hC] 104)) (.cells #[.int .i64 X, .int .i64 Y, .int .i64 d] 45)) (.cells #[.int .i64 0, .int .i64 0] 33)
  have K0 := ((blk_new w #[.int .i64 hA, .int .i64 hB, .int .i64 hC] 104 (b := w.heap.size) (by simp)).to (below_one _ (.cells #[.int .i64 X, .int .i64 Y, .int .i64 d] 45))).to (below_one _ (.cells #[.int .i64 0, .int .i64 0] 33))
  have K1 := (blk_new (w.alloc (.cells #[.int .i64 hA, .int .i64 hB, .int .i64 hC] 104)) #[.int .i64 X, .int .i64 Y, .int .i64 d] 45 (b := w.heap.size + 1) (by simp)).to (below_one _ (.cells #[.int .i64 0, .int .i64 0] 33))
  have K2 := blk_new ((w.alloc (.cells #[.int .i64 hA, .int .i64 hB, .int .i64 hC] 104)).alloc (.cells #[.int .i64 X, .int .i64 Y, .int .i64 d] 45)) #[.int .i64 0, .int .i64 0] 33 (b := w.heap.size + 1 + 1) (by simp)
  obtain ⟨_, m6, m7, m5⟩ := top_in (d := d) hh hX hY (by omega)
  have HT := Lib.hid (show topN hA hB hC X Y d = hC * d - hA * X - hB * Y from rfl)
  generalize topN hA hB hC X Y d = ans at *
  generalize e5 : hC * d = u5 at *
  generalize e6 : hA * X = u6 at *
  generalize e7 : hB * Y = u7 at *
  have t0 : IntKind.i64.wrap (u5) = u5 := IntWalk.i64_in _ (by omega)
  have t1 : IntKind.i64.wrap (u6) = u6 := IntWalk.i64_in _ (by omega)
  have t2 : IntKind.i64.wrap (u7) = u7 := IntWalk.i64_in _ (by omega)
  have t3 : IntKind.i64.wrap (u5 - u6) = u5 - u6 := IntWalk.i64_in _ (by omega)
  have t4 : IntKind.i64.wrap (u5 - u6 - u7) = u5 - u6 - u7 := IntWalk.i64_in _ (by omega)
  have HO := Lib.hid (fun V => impl_ofA (u5 - u6 - u7) d V (by omega) (by omega) (by omega) (by omega))
  rw [← HT.out] at HO
  generalize ofN ans d = N at *
  generalize ofD ans d = D at *
  clear m5 m6 m7 hh hX hY hd
  have h0 := K0.cell0 (i := 0) (v := .int .i64 hA) rfl
  have h1 := K0.cell0 (i := 1) (v := .int .i64 hB) rfl
  have h2 := K0.cell0 (i := 2) (v := .int .i64 hC) rfl
  have s0' := K1.cell0 (i := 0) (v := .int .i64 X) rfl
  have s1' := K1.cell0 (i := 1) (v := .int .i64 Y) rfl
  have s2' := K1.cell0 (i := 2) (v := .int .i64 d) rfl
  go_enter Tryz.func104, Tryz.ntmps104
  go_wp2_with fail
  generalize (((w.alloc (.cells #[.int .i64 hA, .int .i64 hB, .int .i64 hC] 104)).alloc (.cells #[.int .i64 X, .int .i64 Y, .int .i64 d] 45)).alloc (.cells #[.int .i64 0, .int .i64 0] 33)) = V at *
  try rw [HT.out] at HO
  refine (HO.out _).mono ?_
  rintro e w1 ⟨rfl, bl1⟩
  have b1 := below_to bV bl1
  have L2 := K2.to bl1
  have z0 := L2.cell0 (i := 0) (v := .int .i64 0) rfl
  have z1 := L2.cell0 (i := 1) (v := .int .i64 0) rfl
  have f0 := L2.free 0
  have f1 := L2.free 1
  go_wp2_with fail
  exact bodyPost_ret (v := .agg #[.int .i64 N, .int .i64 D]) (by simp [results, Tryz.results104, go_sem, z0, z1]) rfl ⟨rfl, (b1.setCell (p := ⟨w.heap.size + 1 + 1, 0, none⟩) (Nat.le_add_right _ 2) (.int .i64 N)).setCell (p := ⟨w.heap.size + 1 + 1, 1, none⟩) (Nat.le_add_right _ 2) (.int .i64 D)⟩
open Go.RowKit
open Geo (H3)

theorem below_fin {n k : Nat} {w V X : World} (h : Below n w V) (_hk : k < V.heap.size) (hn : n ≤ k) (b : Below k V X) : Below n w X := h.trans (b.mono hn)
theorem below_drk {k : Nat} {V X : World} (hk : k < V.heap.size) (h : Below k V X) : Below k V X.drew := h.trans ((below_drewN X 1).mono (Nat.le_trans (Nat.le_of_lt hk) h.size))
theorem img_keep {V : World} {k a b g o : Nat} {u0 u1 u2 u3 u4 u5 u6 u7 u8 : Value} (ha : a < k) (hb : b < k) (hg : g < k) (h0 : V.cell? ⟨a, 0, none⟩ = some u0) (h1 : V.cell? ⟨a, 1, none⟩ = some u1) (h2 : V.cell? ⟨g, o, none⟩ = some u2) (h3 : V.cell? ⟨g, o + 1, none⟩ = some u3) (h4 : V.cell? ⟨g, o + 2, none⟩ = some u4) (h5 : V.cell? ⟨g, o + 3, none⟩ = some u5) (h6 : V.cell? ⟨b, 0, none⟩ = some u6) (h7 : V.cell? ⟨b, 1, none⟩ = some u7) (h8 : V.cell? ⟨b, 2, none⟩ = some u8) (X : World) (hX : Below k V X) :
    X.cell? ⟨a, 0, none⟩ = some u0 ∧ X.cell? ⟨a, 1, none⟩ = some u1 ∧ X.cell? ⟨g, o, none⟩ = some u2 ∧ X.cell? ⟨g, o + 1, none⟩ = some u3 ∧ X.cell? ⟨g, o + 2, none⟩ = some u4 ∧ X.cell? ⟨g, o + 3, none⟩ = some u5 ∧ X.cell? ⟨b, 0, none⟩ = some u6 ∧ X.cell? ⟨b, 1, none⟩ = some u7 ∧ X.cell? ⟨b, 2, none⟩ = some u8 :=
  ⟨(hX.cell ha).trans h0, (hX.cell ha).trans h1, (hX.cell hg).trans h2, (hX.cell hg).trans h3, (hX.cell hg).trans h4, (hX.cell hg).trans h5, (hX.cell hb).trans h6, (hX.cell hb).trans h7, (hX.cell hb).trans h8⟩
set_option maxRecDepth 20000 in
set_option maxHeartbeats 600000 in
theorem impl_img (am : Option Addr) (nm cm : Nat) (z0 z1 z2 z3 q bx cy lo hi : Int) (an : Option Addr) (nn cn : Nat) (al : Option Addr) (nl cl : Nat) (sX sY sD : Int) (w : World) (hlm : [z0, z1, z2, z3].length = nm) (hM : IsAt w am [z0, z1, z2, z3]) (hm : mapB [z0, z1, z2, z3] q = true) (hs : okS sX sY sD = true) (hd : sD ≤ 100000) :
    Calls Tryz.prog 98 #[.agg #[.slice am nm cm, .int .i64 q, .int .i64 bx, .int .i64 cy, .int .i64 lo, .int .i64 hi, .slice an nn cn, .slice al nl cl], .agg #[.int .i64 sX, .int .i64 sY, .int .i64 sD]] w fun e w' => e = .returned (.agg #[.int .i64 (z0 * sX + z1 * sY), .int .i64 (z2 * sX + z3 * sY), .int .i64 (q * sD)]) ∧ Below w.heap.size w w' := by
  obtain ⟨y0, y1, y2, y3, hy, ⟨a1, a2⟩, ⟨a3, a4⟩, ⟨a5, a6⟩, ⟨a7, a8⟩, q1, q2⟩ := map_four hm
  simp only [List.cons.injEq, and_true] at hy
  obtain ⟨rfl, rfl, rfl, rfl⟩ := hy
  obtain ⟨d1, _, x1, x2, y1, y2, _⟩ := (okS_iff _ _ _).1 hs
  obtain ⟨rfl, g, o, rfl, k0, k1, k2, k3⟩ := zat hlm hM
  have bV := below_bx2 (below_bx2 (below_one w (.cells #[.slice (some ⟨g, o, none⟩) 4 cm, .int .i64 q, .int .i64 bx, .int .i64 cy, .int .i64 lo, .int .i64 hi, .slice an nn cn, .slice al nl cl] 42)) (.cells #[.int .i64 sX, .int .i64 sY, .int .i64 sD] 45)) (.cells #[.int .i64 0, .int .i64 0, .int .i64 0] 45)
  have K0 := ((blk_new w #[.slice (some ⟨g, o, none⟩) 4 cm, .int .i64 q, .int .i64 bx, .int .i64 cy, .int .i64 lo, .int .i64 hi, .slice an nn cn, .slice al nl cl] 42 (b := w.heap.size) (by simp)).to (below_one _ (.cells #[.int .i64 sX, .int .i64 sY, .int .i64 sD] 45))).to (below_one _ (.cells #[.int .i64 0, .int .i64 0, .int .i64 0] 45))
  have K1 := (blk_new (w.alloc (.cells #[.slice (some ⟨g, o, none⟩) 4 cm, .int .i64 q, .int .i64 bx, .int .i64 cy, .int .i64 lo, .int .i64 hi, .slice an nn cn, .slice al nl cl] 42)) #[.int .i64 sX, .int .i64 sY, .int .i64 sD] 45 (b := w.heap.size + 1) (by simp)).to (below_one _ (.cells #[.int .i64 0, .int .i64 0, .int .i64 0] 45))
  have K2 := blk_new ((w.alloc (.cells #[.slice (some ⟨g, o, none⟩) 4 cm, .int .i64 q, .int .i64 bx, .int .i64 cy, .int .i64 lo, .int .i64 hi, .slice an nn cn, .slice al nl cl] 42)).alloc (.cells #[.int .i64 sX, .int .i64 sY, .int .i64 sD] 45)) #[.int .i64 0, .int .i64 0, .int .i64 0] 45 (b := w.heap.size + 1 + 1) (by simp)
  have gw : g < w.heap.size := block_lt_of_cell k0
  replace k0 := cell_to k0 bV
  replace k1 := cell_to k1 bV
  replace k2 := cell_to k2 bV
  replace k3 := cell_to k3 bV
  have m0 := mul_in z0 sX 20 100000000 a1 a2 (by omega) (by omega)
  have m1 := mul_in z1 sY 20 100000000 a3 a4 (by omega) (by omega)
  have m2 := mul_in z2 sX 20 100000000 a5 a6 (by omega) (by omega)
  have m3 := mul_in z3 sY 20 100000000 a7 a8 (by omega) (by omega)
  have m4 := mul_in q sD 20 100000 (by omega) q2 (by omega) hd
  have m4' : 1 * 1 ≤ q * sD := Int.mul_le_mul (by omega) (by omega) (by omega) (by omega)
  generalize e0 : z0 * sX = u0 at *
  generalize e1 : z1 * sY = u1 at *
  generalize e2 : z2 * sX = u2 at *
  generalize e3 : z3 * sY = u3 at *
  generalize e4 : q * sD = u4 at *
  have v0 : IntKind.i64.wrap u0 = u0 := IntWalk.i64_in _ (by omega)
  have v1 : IntKind.i64.wrap u1 = u1 := IntWalk.i64_in _ (by omega)
  have v2 : IntKind.i64.wrap u2 = u2 := IntWalk.i64_in _ (by omega)
  have v3 : IntKind.i64.wrap u3 = u3 := IntWalk.i64_in _ (by omega)
  have v4 : IntKind.i64.wrap u4 = u4 := IntWalk.i64_in _ (by omega)
  have v5 : IntKind.i64.wrap (u0 + u1) = u0 + u1 := IntWalk.i64_in _ (by omega)
  have v6 : IntKind.i64.wrap (u2 + u3) = u2 + u3 := IntWalk.i64_in _ (by omega)
  generalize e01 : u0 + u1 = s0 at *
  generalize e23 : u2 + u3 = s1 at *
  clear a1 a2 a3 a4 a5 a6 a7 a8 q1 q2 d1 x1 x2 y1 y2 m0 m1 m2 m3 m4 m4' hd hm hs hlm hM
  have c0 := K0.c8_0
  have c1 := K0.c8_1
  have c2 := K0.c8_2
  have c3 := K0.c8_3
  have c4 := K0.c8_4
  have c5 := K0.c8_5
  have c6 := K0.c8_6
  have c7 := K0.c8_7
  have s0' := K1.cell0 (i := 0) (v := .int .i64 sX) rfl
  have s1' := K1.cell0 (i := 1) (v := .int .i64 sY) rfl
  have s2' := K1.cell0 (i := 2) (v := .int .i64 sD) rfl
  have z0' := K2.cell0 (i := 0) (v := .int .i64 0) rfl
  have z1' := K2.cell0 (i := 1) (v := .int .i64 0) rfl
  have z2' := K2.cell0 (i := 2) (v := .int .i64 0) rfl
  have f0 := K2.free 0
  have f1 := K2.free 1
  have f2 := K2.free 2
  go_enter Tryz.func98, Tryz.ntmps98
  go_upto_region 1 with fail
  generalize (((w.alloc (.cells #[.slice (some ⟨g, o, none⟩) 4 cm, .int .i64 q, .int .i64 bx, .int .i64 cy, .int .i64 lo, .int .i64 hi, .slice an nn cn, .slice al nl cl] 42)).alloc (.cells #[.int .i64 sX, .int .i64 sY, .int .i64 sD] 45)).alloc (.cells #[.int .i64 0, .int .i64 0, .int .i64 0] 45)) = V at *
  have k := img_keep (k := w.heap.size + 1 + 1) (V := V) (a := w.heap.size) (b := w.heap.size + 1) (g := g) (o := o) (by omega) (by omega) (by omega) c0 c1 k0 k1 k2 k3 s0' s1' s2'
  go_region_held3 (fun w' => w'.cell? ⟨w.heap.size, 0, none⟩ = some (.slice (some ⟨g, o, none⟩) 4 cm) ∧ w'.cell? ⟨w.heap.size, 1, none⟩ = some (.int .i64 q) ∧ w'.cell? ⟨g, o, none⟩ = some (.int .i64 z0) ∧ w'.cell? ⟨g, o + 1, none⟩ = some (.int .i64 z1) ∧ w'.cell? ⟨g, o + 2, none⟩ = some (.int .i64 z2) ∧ w'.cell? ⟨g, o + 3, none⟩ = some (.int .i64 z3) ∧ w'.cell? ⟨w.heap.size + 1, 0, none⟩ = some (.int .i64 sX) ∧ w'.cell? ⟨w.heap.size + 1, 1, none⟩ = some (.int .i64 sY) ∧ w'.cell? ⟨w.heap.size + 1, 2, none⟩ = some (.int .i64 sD)) ((refine k _ ?_; repeat (first | (with_reducible exact Below.refl _ _) | refine Below.setCell ?_ (by first | (simp; done) | (simp; omega)) _ | (refine below_drk K2.lt ?_)))) (fail)
  go_wp2_with fail
  exact bodyPost_ret (v := .agg #[.int .i64 s0, .int .i64 s1, .int .i64 u4]) (by simp [results, Tryz.results98, go_sem, z0', z1', z2']) rfl ⟨rfl, below_fin bV K2.lt (Nat.le_add_right _ 2) (by repeat (first | (with_reducible exact Below.refl _ _) | refine Below.setCell ?_ (by first | (simp; done) | (simp; omega)) _ | (refine below_drk K2.lt ?_)))⟩
end Go.Proofs.YtibkmhmeoelpdaaGreat
