/- NextSpot of the program and of the model, over the translation. NextSpot of the model, over the translation. -/
import Derived.Test.YtibkmhmeoelpdaaGreatKd
namespace Go.Proofs.YtibkmhmeoelpdaaGreat
open Go.RowKit
open Geo (H3)

/-- whether NextSpot's arguments are valid -/
def nsC (zs : List Int) (q bx cy lo hi : Int) (ps qs : List H3) (sX sY sD uN uD tX tY tD : Int) : Bool := rmB zs q bx cy lo hi ps qs && okS sX sY sD && okR uN uD && okS tX tY tD && decide (sD ≤ 100000) && decide (tD ≤ 1000) && decide (uD ≤ 1000) && inB uN (-1000 * uD) (1000 * uD)
def nsX (zs : List Int) (i j : Nat) (q b sX sY sD uN uD t tD : Int) : Int := (zg zs i * sX + zg zs j * sY) * (uD * tD) + b * uN * (q * sD * tD) + t * (q * sD * uD)
def nsA (zs : List Int) (q bx cy sX sY sD uN uD tX tY tD : Int) : Value := ansS (nsX zs 0 1 q bx sX sY sD uN uD tX tD) (nsX zs 2 3 q cy sX sY sD uN uD tY tD) (q * sD * uD * tD)
def nsV (zs : List Int) (q bx cy lo hi : Int) (ps qs : List H3) (sX sY sD uN uD tX tY tD : Int) : Value := if nsC zs q bx cy lo hi ps qs sX sY sD uN uD tX tY tD = true then nsA zs q bx cy sX sY sD uN uD tX tY tD else zeroS
theorem ns_no {zs : List Int} {q bx cy lo hi : Int} {ps qs : List H3} {sX sY sD uN uD tX tY tD : Int} (h : nsC zs q bx cy lo hi ps qs sX sY sD uN uD tX tY tD = false) : nsV zs q bx cy lo hi ps qs sX sY sD uN uD tX tY tD = zeroS := if_neg (by rw [h]; simp)
theorem ns_yes {zs : List Int} {q bx cy lo hi : Int} {ps qs : List H3} {sX sY sD uN uD tX tY tD : Int} (h : nsC zs q bx cy lo hi ps qs sX sY sD uN uD tX tY tD = true) : nsV zs q bx cy lo hi ps qs sX sY sD uN uD tX tY tD = nsA zs q bx cy sX sY sD uN uD tX tY tD := if_pos h
theorem ns_ex (zs : List Int) (q bx cy lo hi : Int) (ps qs : List H3) (sX sY sD uN uD tX tY tD : Int) : ∃ X Y D : Int, ∃ B : Bool, nsV zs q bx cy lo hi ps qs sX sY sD uN uD tX tY tD = .tuple #[.agg #[.int .i64 X, .int .i64 Y, .int .i64 D], .bool B] := by
  unfold nsV
  split
  · exact ansS_ex _ _ _
  · exact ⟨0, 0, 0, false, rfl⟩
theorem rm_rng2 {zs : List Int} {q bx cy lo hi : Int} {ps qs : List H3} (h : rmB zs q bx cy lo hi ps qs = true) : mapB zs q = true ∧ (-100 ≤ bx ∧ bx ≤ 100) ∧ (-100 ≤ cy ∧ cy ≤ 100) := by
  rw [rm_eq] at h
  simp only [Bool.and_eq_true, Bool.not_eq_true', decide_eq_false_iff_not] at h
  obtain ⟨⟨⟨⟨⟨⟨⟨⟨⟨h1, _⟩, h2⟩, h3⟩, h4⟩, h5⟩, h6⟩, h7⟩, h8⟩, h9⟩ := h
  exact ⟨h1, of_inB h2, of_inB h3⟩
/-- what valid arguments of NextSpot say of their numbers -/
structure NsR (z0 z1 z2 z3 q bx cy sX sY sD uN uD tX tY tD : Int) : Prop where
  z0 : -20 ≤ z0 ∧ z0 ≤ 20
  z1 : -20 ≤ z1 ∧ z1 ≤ 20
  z2 : -20 ≤ z2 ∧ z2 ≤ 20
  z3 : -20 ≤ z3 ∧ z3 ≤ 20
  q : 1 ≤ q ∧ q ≤ 20
  bx : -100 ≤ bx ∧ bx ≤ 100
  cy : -100 ≤ cy ∧ cy ≤ 100
  sX : -100000000 ≤ sX ∧ sX ≤ 100000000
  sY : -100000000 ≤ sY ∧ sY ≤ 100000000
  sD : 1 ≤ sD ∧ sD ≤ 100000
  uN : -1000000 ≤ uN ∧ uN ≤ 1000000
  uD : 1 ≤ uD ∧ uD ≤ 1000
  tX : -1000000 ≤ tX ∧ tX ≤ 1000000
  tY : -1000000 ≤ tY ∧ tY ≤ 1000000
  tD : 1 ≤ tD ∧ tD ≤ 1000
theorem ns_rng {zs : List Int} {q bx cy lo hi : Int} {ps qs : List H3} {sX sY sD uN uD tX tY tD : Int} (h : nsC zs q bx cy lo hi ps qs sX sY sD uN uD tX tY tD = true) :
    mapB zs q = true ∧ ∃ z0 z1 z2 z3, zs = [z0, z1, z2, z3] ∧ NsR z0 z1 z2 z3 q bx cy sX sY sD uN uD tX tY tD := by
  unfold nsC at h
  simp only [Bool.and_eq_true, decide_eq_true_eq] at h
  obtain ⟨⟨⟨⟨⟨⟨⟨h1, h2⟩, h3⟩, h4⟩, h5⟩, h6⟩, h7⟩, h8⟩ := h
  obtain ⟨m, b, c⟩ := rm_rng2 h1
  obtain ⟨z0, z1, z2, z3, e, d0, d1, d2, d3, q1, q2⟩ := map_four m
  obtain ⟨s1, s2, s3, s4, s5, s6, _⟩ := (okS_iff _ _ _).1 h2
  obtain ⟨t1, t2, t3, t4, t5, t6, _⟩ := (okS_iff _ _ _).1 h4
  obtain ⟨u1, _, _, _, _⟩ := (okR_iff _ _).1 h3
  have u := of_inB h8
  exact ⟨m, z0, z1, z2, z3, e, d0, d1, d2, d3, ⟨q1, q2⟩, b, c, by omega, by omega, by omega, by omega, by omega, by omega, by omega, by omega⟩
/-- the numbers of the way from a state to the next -/
theorem mul_box {a b M N : Int} (h1 : -M ≤ a) (h2 : a ≤ M) (h3 : -N ≤ b) (h4 : b ≤ N) : -(M * N) ≤ a * b ∧ a * b ≤ M * N := mul_in a b M N h1 h2 h3 h4

set_option maxRecDepth 100000 in
set_option maxHeartbeats 6400000 in
theorem impl_sta (am : Option Addr) (nm cm : Nat) (z0 z1 z2 z3 q bx cy sX sY sD uN uD tX tY tD : Int) (w : World) (R : NsR z0 z1 z2 z3 q bx cy sX sY sD uN uD tX tY tD) (hl : [z0, z1, z2, z3].length = nm) (hA : IsAt w am [z0, z1, z2, z3]) :
    Calls Tryz.prog 85 #[.agg #[.slice am nm cm, .int .i64 q, .int .i64 bx, .int .i64 cy], .agg #[.int .i64 sX, .int .i64 sY, .int .i64 sD], .agg #[.int .i64 uN, .int .i64 uD], .agg #[.int .i64 tX, .int .i64 tY, .int .i64 tD]] w fun e w' => e = .returned (nsA [z0, z1, z2, z3] q bx cy sX sY sD uN uD tX tY tD) ∧ Below w.heap.size w w' := by
  obtain ⟨rfl, g, o, rfl, k0, k1, k2, k3⟩ := zat hl hA
  have bV := (below_bx2 (below_bx2 (below_bx2 (below_bx2 (below_one w (.cells #[.slice (some ⟨g, o, none⟩) 4 cm, .int .i64 q, .int .i64 bx, .int .i64 cy] 89)) (.cells #[.int .i64 sX, .int .i64 sY, .int .i64 sD] 45)) (.cells #[.int .i64 uN, .int .i64 uD] 33)) (.cells #[.int .i64 tX, .int .i64 tY, .int .i64 tD] 45)) (.cells #[.int .i64 0, .int .i64 0, .int .i64 0] 45))
  have K0 := (((((blk_new w #[.slice (some ⟨g, o, none⟩) 4 cm, .int .i64 q, .int .i64 bx, .int .i64 cy] 89 (b := w.heap.size) (by simp)).to (below_one _ (.cells #[.int .i64 sX, .int .i64 sY, .int .i64 sD] 45))).to (below_one _ (.cells #[.int .i64 uN, .int .i64 uD] 33))).to (below_one _ (.cells #[.int .i64 tX, .int .i64 tY, .int .i64 tD] 45))).to (below_one _ (.cells #[.int .i64 0, .int .i64 0, .int .i64 0] 45)))
  have K1 := ((((blk_new (w.alloc (.cells #[.slice (some ⟨g, o, none⟩) 4 cm, .int .i64 q, .int .i64 bx, .int .i64 cy] 89)) #[.int .i64 sX, .int .i64 sY, .int .i64 sD] 45 (b := w.heap.size + 1) (by simp)).to (below_one _ (.cells #[.int .i64 uN, .int .i64 uD] 33))).to (below_one _ (.cells #[.int .i64 tX, .int .i64 tY, .int .i64 tD] 45))).to (below_one _ (.cells #[.int .i64 0, .int .i64 0, .int .i64 0] 45)))
  have K2 := (((blk_new ((w.alloc (.cells #[.slice (some ⟨g, o, none⟩) 4 cm, .int .i64 q, .int .i64 bx, .int .i64 cy] 89)).alloc (.cells #[.int .i64 sX, .int .i64 sY, .int .i64 sD] 45)) #[.int .i64 uN, .int .i64 uD] 33 (b := w.heap.size + 2) (by simp)).to (below_one _ (.cells #[.int .i64 tX, .int .i64 tY, .int .i64 tD] 45))).to (below_one _ (.cells #[.int .i64 0, .int .i64 0, .int .i64 0] 45)))
  have K3 := ((blk_new (((w.alloc (.cells #[.slice (some ⟨g, o, none⟩) 4 cm, .int .i64 q, .int .i64 bx, .int .i64 cy] 89)).alloc (.cells #[.int .i64 sX, .int .i64 sY, .int .i64 sD] 45)).alloc (.cells #[.int .i64 uN, .int .i64 uD] 33)) #[.int .i64 tX, .int .i64 tY, .int .i64 tD] 45 (b := w.heap.size + 3) (by simp)).to (below_one _ (.cells #[.int .i64 0, .int .i64 0, .int .i64 0] 45)))
  have K4 := (blk_new ((((w.alloc (.cells #[.slice (some ⟨g, o, none⟩) 4 cm, .int .i64 q, .int .i64 bx, .int .i64 cy] 89)).alloc (.cells #[.int .i64 sX, .int .i64 sY, .int .i64 sD] 45)).alloc (.cells #[.int .i64 uN, .int .i64 uD] 33)).alloc (.cells #[.int .i64 tX, .int .i64 tY, .int .i64 tD] 45)) #[.int .i64 0, .int .i64 0, .int .i64 0] 45 (b := w.heap.size + 4) (by simp))
  have c00 := K0.cell0 (i := 0) (v := .slice (some ⟨g, o, none⟩) 4 cm) rfl
  have c01 := K0.cell0 (i := 1) (v := .int .i64 q) rfl
  have c02 := K0.cell0 (i := 2) (v := .int .i64 bx) rfl
  have c03 := K0.cell0 (i := 3) (v := .int .i64 cy) rfl
  have c10 := K1.cell0 (i := 0) (v := .int .i64 sX) rfl
  have c11 := K1.cell0 (i := 1) (v := .int .i64 sY) rfl
  have c12 := K1.cell0 (i := 2) (v := .int .i64 sD) rfl
  have c20 := K2.cell0 (i := 0) (v := .int .i64 uN) rfl
  have c21 := K2.cell0 (i := 1) (v := .int .i64 uD) rfl
  have c30 := K3.cell0 (i := 0) (v := .int .i64 tX) rfl
  have c31 := K3.cell0 (i := 1) (v := .int .i64 tY) rfl
  have c32 := K3.cell0 (i := 2) (v := .int .i64 tD) rfl
  have c40 := K4.cell0 (i := 0) (v := .int .i64 0) rfl
  have c41 := K4.cell0 (i := 1) (v := .int .i64 0) rfl
  have c42 := K4.cell0 (i := 2) (v := .int .i64 0) rfl
  replace k0 := cell_to k0 bV
  replace k1 := cell_to k1 bV
  replace k2 := cell_to k2 bV
  replace k3 := cell_to k3 bV
  have eA := mul_box (a := uD) (b := tD) (M := 1000) (N := 1000) (by have := R.uD; omega) (by have := R.uD; omega) (by have := R.tD; omega) (by have := R.tD; omega)
  have eB1 := mul_box (a := q) (b := sD) (M := 20) (N := 100000) (by have := R.q; omega) (by have := R.q; omega) (by have := R.sD; omega) (by have := R.sD; omega)
  have e0 := mul_box (a := z0) (b := sX) (M := 20) (N := 100000000) R.z0.1 R.z0.2 R.sX.1 R.sX.2
  have e1 := mul_box (a := z1) (b := sY) (M := 20) (N := 100000000) R.z1.1 R.z1.2 R.sY.1 R.sY.2
  have e2 := mul_box (a := z2) (b := sX) (M := 20) (N := 100000000) R.z2.1 R.z2.2 R.sX.1 R.sX.2
  have e3 := mul_box (a := z3) (b := sY) (M := 20) (N := 100000000) R.z3.1 R.z3.2 R.sY.1 R.sY.2
  have e4 := mul_box (a := bx) (b := uN) (M := 100) (N := 1000000) R.bx.1 R.bx.2 R.uN.1 R.uN.2
  have e5 := mul_box (a := cy) (b := uN) (M := 100) (N := 1000000) R.cy.1 R.cy.2 R.uN.1 R.uN.2
  have HA := Lib.hid (show nsA [z0, z1, z2, z3] q bx cy sX sY sD uN uD tX tY tD = ansS ((z0 * sX + z1 * sY) * (uD * tD) + bx * uN * (q * sD * tD) + tX * (q * sD * uD)) ((z2 * sX + z3 * sY) * (uD * tD) + cy * uN * (q * sD * tD) + tY * (q * sD * uD)) (q * sD * uD * tD) from rfl)
  generalize nsA [z0, z1, z2, z3] q bx cy sX sY sD uN uD tX tY tD = ans at *
  generalize gA : uD * tD = pA at *
  generalize gB1 : q * sD = pB1 at *
  generalize g0 : z0 * sX = p0 at *
  generalize g1 : z1 * sY = p1 at *
  generalize g2 : z2 * sX = p2 at *
  generalize g3 : z3 * sY = p3 at *
  generalize g4 : bx * uN = p4 at *
  generalize g5 : cy * uN = p5 at *
  have eB := mul_box (a := pB1) (b := tD) (M := 2000000) (N := 1000) (by omega) (by omega) (by have := R.tD; omega) (by have := R.tD; omega)
  have eC := mul_box (a := pB1) (b := uD) (M := 2000000) (N := 1000) (by omega) (by omega) (by have := R.uD; omega) (by have := R.uD; omega)
  generalize gB : pB1 * tD = pB at *
  generalize gC : pB1 * uD = pC at *
  have eD := mul_box (a := pC) (b := tD) (M := 2000000000) (N := 1000) (by omega) (by omega) (by have := R.tD; omega) (by have := R.tD; omega)
  have e6 := mul_box (a := p0 + p1) (b := pA) (M := 4000000000) (N := 1000000) (by omega) (by omega) (by omega) (by omega)
  have e7 := mul_box (a := p2 + p3) (b := pA) (M := 4000000000) (N := 1000000) (by omega) (by omega) (by omega) (by omega)
  have e8 := mul_box (a := p4) (b := pB) (M := 100000000) (N := 2000000000) (by omega) (by omega) (by omega) (by omega)
  have e9 := mul_box (a := p5) (b := pB) (M := 100000000) (N := 2000000000) (by omega) (by omega) (by omega) (by omega)
  have e10 := mul_box (a := tX) (b := pC) (M := 1000000) (N := 2000000000) R.tX.1 R.tX.2 (by omega) (by omega)
  have e11 := mul_box (a := tY) (b := pC) (M := 1000000) (N := 2000000000) R.tY.1 R.tY.2 (by omega) (by omega)
  have w01 : IntKind.i64.wrap (p0 + p1) = p0 + p1 := IntWalk.i64_in _ (by omega)
  have w23 : IntKind.i64.wrap (p2 + p3) = p2 + p3 := IntWalk.i64_in _ (by omega)
  generalize g01 : p0 + p1 = p01 at *
  generalize g23 : p2 + p3 = p23 at *
  generalize gD : pC * tD = pD at *
  generalize g6 : p01 * pA = p6 at *
  generalize g7 : p23 * pA = p7 at *
  generalize g8 : p4 * pB = p8 at *
  generalize g9 : p5 * pB = p9 at *
  generalize g10 : tX * pC = p10 at *
  generalize g11 : tY * pC = p11 at *
  have v_pA : IntKind.i64.wrap pA = pA := IntWalk.i64_in _ (by omega)
  have v_pB1 : IntKind.i64.wrap pB1 = pB1 := IntWalk.i64_in _ (by omega)
  have v_p0 : IntKind.i64.wrap p0 = p0 := IntWalk.i64_in _ (by omega)
  have v_p1 : IntKind.i64.wrap p1 = p1 := IntWalk.i64_in _ (by omega)
  have v_p2 : IntKind.i64.wrap p2 = p2 := IntWalk.i64_in _ (by omega)
  have v_p3 : IntKind.i64.wrap p3 = p3 := IntWalk.i64_in _ (by omega)
  have v_p4 : IntKind.i64.wrap p4 = p4 := IntWalk.i64_in _ (by omega)
  have v_p5 : IntKind.i64.wrap p5 = p5 := IntWalk.i64_in _ (by omega)
  have v_pB : IntKind.i64.wrap pB = pB := IntWalk.i64_in _ (by omega)
  have v_pC : IntKind.i64.wrap pC = pC := IntWalk.i64_in _ (by omega)
  have v_pD : IntKind.i64.wrap pD = pD := IntWalk.i64_in _ (by omega)
  have v_p6 : IntKind.i64.wrap p6 = p6 := IntWalk.i64_in _ (by omega)
  have v_p7 : IntKind.i64.wrap p7 = p7 := IntWalk.i64_in _ (by omega)
  have v_p8 : IntKind.i64.wrap p8 = p8 := IntWalk.i64_in _ (by omega)
  have v_p9 : IntKind.i64.wrap p9 = p9 := IntWalk.i64_in _ (by omega)
  have v_p10 : IntKind.i64.wrap p10 = p10 := IntWalk.i64_in _ (by omega)
  have v_p11 : IntKind.i64.wrap p11 = p11 := IntWalk.i64_in _ (by omega)
  have s1 : IntKind.i64.wrap (p6 + p8) = p6 + p8 := IntWalk.i64_in _ (by omega)
  have s2 : IntKind.i64.wrap (p6 + p8 + p10) = p6 + p8 + p10 := IntWalk.i64_in _ (by omega)
  have s3 : IntKind.i64.wrap (p7 + p9) = p7 + p9 := IntWalk.i64_in _ (by omega)
  have s4 : IntKind.i64.wrap (p7 + p9 + p11) = p7 + p9 + p11 := IntWalk.i64_in _ (by omega)
  have HS := Lib.hid (fun V => impl_sof (p6 + p8 + p10) (p7 + p9 + p11) pD V (by omega) (by omega) (by omega) (by omega) (by omega) (by omega))
  rw [← HA.out] at HS
  obtain ⟨X, Y, D, B, hans⟩ := ansS_ex (p6 + p8 + p10) (p7 + p9 + p11) pD
  rw [← HA.out] at hans
  subst hans
  clear e0 e1 e2 e3 e4 e5 e6 e7 e8 e9 e10 e11 eA eB eB1 eC eD HA hA hl R
  have TK := K4
  go_enter Tryz.func85, Tryz.ntmps85
  go_wp2
  generalize (((((w.alloc (.cells #[.slice (some ⟨g, o, none⟩) 4 cm, .int .i64 q, .int .i64 bx, .int .i64 cy] 89)).alloc (.cells #[.int .i64 sX, .int .i64 sY, .int .i64 sD] 45)).alloc (.cells #[.int .i64 uN, .int .i64 uD] 33)).alloc (.cells #[.int .i64 tX, .int .i64 tY, .int .i64 tD] 45)).alloc (.cells #[.int .i64 0, .int .i64 0, .int .i64 0] 45)) = V at *
  go_quiet (fail)
  go_wp2
  go_quiet (fail)
  go_wp2
  go_quiet (fail)
  go_wp2_with fail
  refine (HS.out _).mono ?_
  rintro e w6 ⟨rfl, bl6⟩
  have bl7 := below_to (below_drewN V _) bl6
  have b6 := below_to bV bl7
  have T6 := K4.to bl7
  have t0 := T6.cell0 (i := 0) (v := .int .i64 0) rfl
  have t1 := T6.cell0 (i := 1) (v := .int .i64 0) rfl
  have t2 := T6.cell0 (i := 2) (v := .int .i64 0) rfl
  have f0 := T6.free 0
  have f1 := T6.free 1
  have f2 := T6.free 2
  go_wp2_with fail
  exact bodyPost_ret (v := .tuple #[.agg #[.int .i64 X, .int .i64 Y, .int .i64 D], .bool B]) (by simp [results, Tryz.results85, go_sem, t0, t1, t2]) rfl ⟨rfl, ((b6.setCell (p := ⟨w.heap.size + 4, 0, none⟩) (by simp) _).setCell (p := ⟨w.heap.size + 4, 1, none⟩) (by simp) _).setCell (p := ⟨w.heap.size + 4, 2, none⟩) (by simp) _⟩
set_option maxRecDepth 100000 in
set_option maxHeartbeats 1600000 in
theorem impl_smi (uN uD : Int) (w : World) (b : Bool) (hb : (okR uN uD && decide (uD ≤ 1000) && inB uN (-1000 * uD) (1000 * uD)) = b) (hu : (-9223372036854775808 ≤ uN ∧ uN ≤ 9223372036854775807) ∧ -9223372036854775808 ≤ uD ∧ uD ≤ 9223372036854775807) :
    Calls Tryz.prog 84 #[.agg #[.int .i64 uN, .int .i64 uD]] w fun e w' => e = .returned (.bool b) ∧ Below w.heap.size w w' := by
  have bV := below_one w (.cells #[.int .i64 uN, .int .i64 uD] 33)
  have K0 := blk_new w #[.int .i64 uN, .int .i64 uD] 33 rfl
  have u0 := K0.cell0 (i := 0) (v := .int .i64 uN) rfl
  have u1 := K0.cell0 (i := 1) (v := .int .i64 uD) rfl
  have HK := Lib.hid (fun V => impl_ok uN uD V hu.1.1 hu.1.2 hu.2.1 hu.2.2)
  have HB := Lib.hid hb
  clear hb
  obtain ⟨r, hr⟩ : ∃ r, okR uN uD = r := ⟨_, rfl⟩
  rw [hr] at HK HB
  go_enter Tryz.func84, Tryz.ntmps84
  go_wp2_with fail
  generalize w.alloc (.cells #[.int .i64 uN, .int .i64 uD] 33) = V at *
  refine (HK.out _).mono ?_
  rintro e w1 ⟨rfl, bl1⟩
  have b1 := below_to bV bl1
  have L0 := K0.to bl1
  clear u0 u1 bV bl1 K0 HK
  have u0 := L0.cell0 (i := 0) (v := .int .i64 uN) rfl
  have u1 := L0.cell0 (i := 1) (v := .int .i64 uD) rfl
  cases r with
  | false =>
    have HN := Lib.hid (show false = b by rw [← HB.out]; rfl)
    go_wp2
    go_ret
    exact ⟨ret_bool HN.out, b1⟩
  | true =>
    obtain ⟨o1, _, _, _, _⟩ := (okR_iff _ _).1 hr
    by_cases hd : uD ≤ 1000
    · have hdd : decide (uD ≤ 1000) = true := decide_eq_true hd
      have HI := Lib.hid (fun V => in_impl_is uN (-1000 * uD) (1000 * uD) V _ rfl)
      have HN := Lib.hid (show inB uN (-1000 * uD) (1000 * uD) = b by rw [← HB.out, hdd]; simp)
      have v1 : IntKind.i64.wrap (-1000 * uD) = -1000 * uD := IntWalk.i64_in _ (by omega)
      have v2 : IntKind.i64.wrap (1000 * uD) = 1000 * uD := IntWalk.i64_in _ (by omega)
      clear hr HB hu
      generalize inB uN (-1000 * uD) (1000 * uD) = r3 at *
      go_wp2_with fail
      refine (HI.out _).mono ?_
      rintro e w3 ⟨rfl, hw3⟩
      subst hw3
      go_wp2
      go_ret
      exact ⟨ret_bool HN.out, b1⟩
    · have hdd : decide (uD ≤ 1000) = false := decide_eq_false hd
      have HN := Lib.hid (show false = b by rw [← HB.out, hdd]; simp)
      clear hr HB hu
      go_wp2
      go_ret
      exact ⟨ret_bool HN.out, b1⟩
theorem has3_blk {W : World} {B : Nat} {a b c : Value} {T : TypeId} (h : Blk W B #[a, b, c] T) : Has3 W B a b c := ⟨h.cell0 (i := 0) rfl, h.cell0 (i := 1) rfl, h.cell0 (i := 2) rfl, h.free 0, h.free 1, h.free 2⟩
theorem ns_keep {V X : World} {B0 B1 B2 B3 : Nat} {a0 a1 a2 a3 a4 a5 a6 a7 s0 s1 s2 u0 u1 t0 t1 t2 : Value} {T0 T1 T2 T3 : TypeId} (h0 : Blk V B0 #[a0, a1, a2, a3, a4, a5, a6, a7] T0) (h1 : Blk V B1 #[s0, s1, s2] T1) (h2 : Blk V B2 #[u0, u1] T2) (h3 : Blk V B3 #[t0, t1, t2] T3) (hb : Below V.heap.size V X) : X.cell? ⟨B0, 0, none⟩ = some a0 ∧ X.cell? ⟨B0, 1, none⟩ = some a1 ∧ X.cell? ⟨B0, 2, none⟩ = some a2 ∧ X.cell? ⟨B0, 3, none⟩ = some a3 ∧ X.cell? ⟨B0, 4, none⟩ = some a4 ∧ X.cell? ⟨B0, 5, none⟩ = some a5 ∧ X.cell? ⟨B0, 6, none⟩ = some a6 ∧ X.cell? ⟨B0, 7, none⟩ = some a7 ∧ X.cell? ⟨B1, 0, none⟩ = some s0 ∧ X.cell? ⟨B1, 1, none⟩ = some s1 ∧ X.cell? ⟨B1, 2, none⟩ = some s2 ∧ X.cell? ⟨B2, 0, none⟩ = some u0 ∧ X.cell? ⟨B2, 1, none⟩ = some u1 ∧ X.cell? ⟨B3, 0, none⟩ = some t0 ∧ X.cell? ⟨B3, 1, none⟩ = some t1 ∧ X.cell? ⟨B3, 2, none⟩ = some t2 :=
  ⟨cell_to (h0.c8_0) hb, cell_to (h0.c8_1) hb, cell_to (h0.c8_2) hb, cell_to (h0.c8_3) hb, cell_to (h0.c8_4) hb, cell_to (h0.c8_5) hb, cell_to (h0.c8_6) hb, cell_to (h0.c8_7) hb, cell_to (h1.cell0 (i := 0) (v := s0) rfl) hb, cell_to (h1.cell0 (i := 1) (v := s1) rfl) hb, cell_to (h1.cell0 (i := 2) (v := s2) rfl) hb, cell_to (h2.cell0 (i := 0) (v := u0) rfl) hb, cell_to (h2.cell0 (i := 1) (v := u1) rfl) hb, cell_to (h3.cell0 (i := 0) (v := t0) rfl) hb, cell_to (h3.cell0 (i := 1) (v := t1) rfl) hb, cell_to (h3.cell0 (i := 2) (v := t2) rfl) hb⟩
theorem ns_put {V X : World} {B0 B1 B2 B3 : Nat} {a0 a1 a2 a3 a4 a5 a6 a7 s0 s1 s2 u0 u1 t0 t1 t2 : Value} {T0 T1 T2 T3 : TypeId} (h0 : Blk V B0 #[a0, a1, a2, a3, a4, a5, a6, a7] T0) (h1 : Blk V B1 #[s0, s1, s2] T1) (h2 : Blk V B2 #[u0, u1] T2) (h3 : Blk V B3 #[t0, t1, t2] T3) (hb : Below V.heap.size V X) {B : Nat} {u v z : Value} (n0 : B ≠ B0) (n1 : B ≠ B1) (n2 : B ≠ B2) (n3 : B ≠ B3) : (((X.setCell ⟨B, 0, none⟩ u).setCell ⟨B, 1, none⟩ v).setCell ⟨B, 2, none⟩ z).cell? ⟨B0, 0, none⟩ = some a0 ∧ (((X.setCell ⟨B, 0, none⟩ u).setCell ⟨B, 1, none⟩ v).setCell ⟨B, 2, none⟩ z).cell? ⟨B0, 1, none⟩ = some a1 ∧ (((X.setCell ⟨B, 0, none⟩ u).setCell ⟨B, 1, none⟩ v).setCell ⟨B, 2, none⟩ z).cell? ⟨B0, 2, none⟩ = some a2 ∧ (((X.setCell ⟨B, 0, none⟩ u).setCell ⟨B, 1, none⟩ v).setCell ⟨B, 2, none⟩ z).cell? ⟨B0, 3, none⟩ = some a3 ∧ (((X.setCell ⟨B, 0, none⟩ u).setCell ⟨B, 1, none⟩ v).setCell ⟨B, 2, none⟩ z).cell? ⟨B0, 4, none⟩ = some a4 ∧ (((X.setCell ⟨B, 0, none⟩ u).setCell ⟨B, 1, none⟩ v).setCell ⟨B, 2, none⟩ z).cell? ⟨B0, 5, none⟩ = some a5 ∧ (((X.setCell ⟨B, 0, none⟩ u).setCell ⟨B, 1, none⟩ v).setCell ⟨B, 2, none⟩ z).cell? ⟨B0, 6, none⟩ = some a6 ∧ (((X.setCell ⟨B, 0, none⟩ u).setCell ⟨B, 1, none⟩ v).setCell ⟨B, 2, none⟩ z).cell? ⟨B0, 7, none⟩ = some a7 ∧ (((X.setCell ⟨B, 0, none⟩ u).setCell ⟨B, 1, none⟩ v).setCell ⟨B, 2, none⟩ z).cell? ⟨B1, 0, none⟩ = some s0 ∧ (((X.setCell ⟨B, 0, none⟩ u).setCell ⟨B, 1, none⟩ v).setCell ⟨B, 2, none⟩ z).cell? ⟨B1, 1, none⟩ = some s1 ∧ (((X.setCell ⟨B, 0, none⟩ u).setCell ⟨B, 1, none⟩ v).setCell ⟨B, 2, none⟩ z).cell? ⟨B1, 2, none⟩ = some s2 ∧ (((X.setCell ⟨B, 0, none⟩ u).setCell ⟨B, 1, none⟩ v).setCell ⟨B, 2, none⟩ z).cell? ⟨B2, 0, none⟩ = some u0 ∧ (((X.setCell ⟨B, 0, none⟩ u).setCell ⟨B, 1, none⟩ v).setCell ⟨B, 2, none⟩ z).cell? ⟨B2, 1, none⟩ = some u1 ∧ (((X.setCell ⟨B, 0, none⟩ u).setCell ⟨B, 1, none⟩ v).setCell ⟨B, 2, none⟩ z).cell? ⟨B3, 0, none⟩ = some t0 ∧ (((X.setCell ⟨B, 0, none⟩ u).setCell ⟨B, 1, none⟩ v).setCell ⟨B, 2, none⟩ z).cell? ⟨B3, 1, none⟩ = some t1 ∧ (((X.setCell ⟨B, 0, none⟩ u).setCell ⟨B, 1, none⟩ v).setCell ⟨B, 2, none⟩ z).cell? ⟨B3, 2, none⟩ = some t2 :=
  ⟨cell_put3 hb n0 (h0.c8_0), cell_put3 hb n0 (h0.c8_1), cell_put3 hb n0 (h0.c8_2), cell_put3 hb n0 (h0.c8_3), cell_put3 hb n0 (h0.c8_4), cell_put3 hb n0 (h0.c8_5), cell_put3 hb n0 (h0.c8_6), cell_put3 hb n0 (h0.c8_7), cell_put3 hb n1 (h1.cell0 (i := 0) (v := s0) rfl), cell_put3 hb n1 (h1.cell0 (i := 1) (v := s1) rfl), cell_put3 hb n1 (h1.cell0 (i := 2) (v := s2) rfl), cell_put3 hb n2 (h2.cell0 (i := 0) (v := u0) rfl), cell_put3 hb n2 (h2.cell0 (i := 1) (v := u1) rfl), cell_put3 hb n3 (h3.cell0 (i := 0) (v := t0) rfl), cell_put3 hb n3 (h3.cell0 (i := 1) (v := t1) rfl), cell_put3 hb n3 (h3.cell0 (i := 2) (v := t2) rfl)⟩
set_option maxRecDepth 100000 in
set_option maxHeartbeats 6400000 in
theorem impl_ns (am : Option Addr) (nm cm : Nat) (zs : List Int) (q bx cy lo hi : Int) (an : Option Addr) (nn cn : Nat) (ps : List H3) (al : Option Addr) (nl cl : Nat) (qs : List H3) (sX sY sD uN uD tX tY tD : Int) (w : World) (hA : RAt w am nm zs an nn ps al nl qs) (h64 : R64 q bx cy lo hi ps qs) (hs : In64 ⟨sX, sY, sD⟩) (hu : (-9223372036854775808 ≤ uN ∧ uN ≤ 9223372036854775807) ∧ -9223372036854775808 ≤ uD ∧ uD ≤ 9223372036854775807) (ht : In64 ⟨tX, tY, tD⟩) (hle : nm + nn + nl ≤ 1048576) :
    Calls Tryz.prog 39 #[.agg #[.slice am nm cm, .int .i64 q, .int .i64 bx, .int .i64 cy, .int .i64 lo, .int .i64 hi, .slice an nn cn, .slice al nl cl], .agg #[.int .i64 sX, .int .i64 sY, .int .i64 sD], .agg #[.int .i64 uN, .int .i64 uD], .agg #[.int .i64 tX, .int .i64 tY, .int .i64 tD]] w fun e w' => e = .returned (nsV zs q bx cy lo hi ps qs sX sY sD uN uD tX tY tD) ∧ Below w.heap.size w w' := by
  have bV := (below_bx2 (below_bx2 (below_bx2 (below_bx2 (below_one w (.cells #[.slice am nm cm, .int .i64 q, .int .i64 bx, .int .i64 cy, .int .i64 lo, .int .i64 hi, .slice an nn cn, .slice al nl cl] 42)) (.cells #[.int .i64 sX, .int .i64 sY, .int .i64 sD] 45)) (.cells #[.int .i64 uN, .int .i64 uD] 33)) (.cells #[.int .i64 tX, .int .i64 tY, .int .i64 tD] 45)) (.cells #[.int .i64 0, .int .i64 0, .int .i64 0] 45))
  have K0 := (((((blk_new w #[.slice am nm cm, .int .i64 q, .int .i64 bx, .int .i64 cy, .int .i64 lo, .int .i64 hi, .slice an nn cn, .slice al nl cl] 42 (b := w.heap.size) (by simp)).to (below_one _ (.cells #[.int .i64 sX, .int .i64 sY, .int .i64 sD] 45))).to (below_one _ (.cells #[.int .i64 uN, .int .i64 uD] 33))).to (below_one _ (.cells #[.int .i64 tX, .int .i64 tY, .int .i64 tD] 45))).to (below_one _ (.cells #[.int .i64 0, .int .i64 0, .int .i64 0] 45)))
  have K1 := ((((blk_new (w.alloc (.cells #[.slice am nm cm, .int .i64 q, .int .i64 bx, .int .i64 cy, .int .i64 lo, .int .i64 hi, .slice an nn cn, .slice al nl cl] 42)) #[.int .i64 sX, .int .i64 sY, .int .i64 sD] 45 (b := w.heap.size + 1) (by simp)).to (below_one _ (.cells #[.int .i64 uN, .int .i64 uD] 33))).to (below_one _ (.cells #[.int .i64 tX, .int .i64 tY, .int .i64 tD] 45))).to (below_one _ (.cells #[.int .i64 0, .int .i64 0, .int .i64 0] 45)))
  have K2 := (((blk_new ((w.alloc (.cells #[.slice am nm cm, .int .i64 q, .int .i64 bx, .int .i64 cy, .int .i64 lo, .int .i64 hi, .slice an nn cn, .slice al nl cl] 42)).alloc (.cells #[.int .i64 sX, .int .i64 sY, .int .i64 sD] 45)) #[.int .i64 uN, .int .i64 uD] 33 (b := w.heap.size + 2) (by simp)).to (below_one _ (.cells #[.int .i64 tX, .int .i64 tY, .int .i64 tD] 45))).to (below_one _ (.cells #[.int .i64 0, .int .i64 0, .int .i64 0] 45)))
  have K3 := ((blk_new (((w.alloc (.cells #[.slice am nm cm, .int .i64 q, .int .i64 bx, .int .i64 cy, .int .i64 lo, .int .i64 hi, .slice an nn cn, .slice al nl cl] 42)).alloc (.cells #[.int .i64 sX, .int .i64 sY, .int .i64 sD] 45)).alloc (.cells #[.int .i64 uN, .int .i64 uD] 33)) #[.int .i64 tX, .int .i64 tY, .int .i64 tD] 45 (b := w.heap.size + 3) (by simp)).to (below_one _ (.cells #[.int .i64 0, .int .i64 0, .int .i64 0] 45)))
  have K4 := (blk_new ((((w.alloc (.cells #[.slice am nm cm, .int .i64 q, .int .i64 bx, .int .i64 cy, .int .i64 lo, .int .i64 hi, .slice an nn cn, .slice al nl cl] 42)).alloc (.cells #[.int .i64 sX, .int .i64 sY, .int .i64 sD] 45)).alloc (.cells #[.int .i64 uN, .int .i64 uD] 33)).alloc (.cells #[.int .i64 tX, .int .i64 tY, .int .i64 tD] 45)) #[.int .i64 0, .int .i64 0, .int .i64 0] 45 (b := w.heap.size + 4) (by simp))
  have HR := Lib.hid (fun V (h : Below w.heap.size w V) => impl_room am nm cm zs q bx cy lo hi an nn cn ps al nl cl qs V _ rfl (hA.below h) h64 hle)
  have HKS := Lib.hid (fun V => impl_sok sX sY sD V hs.1.1 hs.1.2 hs.2.1.1 hs.2.1.2 hs.2.2.1 hs.2.2.2)
  have HKT := Lib.hid (fun V => impl_sok tX tY tD V ht.1.1 ht.1.2 ht.2.1.1 ht.2.1.2 ht.2.2.1 ht.2.2.2)
  have HKU := Lib.hid (fun V => impl_smi uN uD V _ rfl hu)
  have HW := Lib.hid (fun V => impl_wm am nm cm q bx cy lo hi an nn cn al nl cl V)
  have HZ := Lib.hid hA
  have HD := Lib.hid (show nsC zs q bx cy lo hi ps qs sX sY sD uN uD tX tY tD = (rmB zs q bx cy lo hi ps qs && okS sX sY sD && okR uN uD && okS tX tY tD && decide (sD ≤ 100000) && decide (tD ≤ 1000) && decide (uD ≤ 1000) && inB uN (-1000 * uD) (1000 * uD)) from rfl)
  clear hA h64 hs hu ht
  have c00 := K0.c8_0
  have c01 := K0.c8_1
  have c02 := K0.c8_2
  have c03 := K0.c8_3
  have c04 := K0.c8_4
  have c05 := K0.c8_5
  have c06 := K0.c8_6
  have c07 := K0.c8_7
  have c10 := K1.cell0 (i := 0) (v := .int .i64 sX) rfl
  have c11 := K1.cell0 (i := 1) (v := .int .i64 sY) rfl
  have c12 := K1.cell0 (i := 2) (v := .int .i64 sD) rfl
  have c20 := K2.cell0 (i := 0) (v := .int .i64 uN) rfl
  have c21 := K2.cell0 (i := 1) (v := .int .i64 uD) rfl
  have c30 := K3.cell0 (i := 0) (v := .int .i64 tX) rfl
  have c31 := K3.cell0 (i := 1) (v := .int .i64 tY) rfl
  have c32 := K3.cell0 (i := 2) (v := .int .i64 tD) rfl
  go_enter Tryz.func39, Tryz.ntmps39
  go_wp2_with fail
  generalize (((((w.alloc (.cells #[.slice am nm cm, .int .i64 q, .int .i64 bx, .int .i64 cy, .int .i64 lo, .int .i64 hi, .slice an nn cn, .slice al nl cl] 42)).alloc (.cells #[.int .i64 sX, .int .i64 sY, .int .i64 sD] 45)).alloc (.cells #[.int .i64 uN, .int .i64 uD] 33)).alloc (.cells #[.int .i64 tX, .int .i64 tY, .int .i64 tD] 45)).alloc (.cells #[.int .i64 0, .int .i64 0, .int .i64 0] 45)) = V at *
  refine (HKS.out _).mono ?_
  rintro e v1 ⟨rfl, bl1⟩
  clear c00 c01 c02 c03 c04 c05 c06 c07 c10 c11 c12 c20 c21 c30 c31 c32
  have b1 := below_to bV bl1
  have L0 := K0.to bl1
  have L1 := K1.to bl1
  have L2 := K2.to bl1
  have L3 := K3.to bl1
  have L4 := K4.to bl1
  clear bl1 bV K0 K1 K2 K3 K4
  cases h1 : okS sX sY sD with
  | false =>
    have HN := Lib.hid (ns_no (sX := sX) (sY := sY) (tX := tX) (tY := tY) (show nsC zs q bx cy lo hi ps qs sX sY sD uN uD tX tY tD = false by rw [HD.out]; simp [h1]))
    have c00 := L0.c8_0
    have c01 := L0.c8_1
    have c02 := L0.c8_2
    have c03 := L0.c8_3
    have c04 := L0.c8_4
    have c05 := L0.c8_5
    have c06 := L0.c8_6
    have c07 := L0.c8_7
    have c10 := L1.cell0 (i := 0) (v := .int .i64 sX) rfl
    have c11 := L1.cell0 (i := 1) (v := .int .i64 sY) rfl
    have c12 := L1.cell0 (i := 2) (v := .int .i64 sD) rfl
    have c20 := L2.cell0 (i := 0) (v := .int .i64 uN) rfl
    have c21 := L2.cell0 (i := 1) (v := .int .i64 uD) rfl
    have c30 := L3.cell0 (i := 0) (v := .int .i64 tX) rfl
    have c31 := L3.cell0 (i := 1) (v := .int .i64 tY) rfl
    have c32 := L3.cell0 (i := 2) (v := .int .i64 tD) rfl
    clear h1
    obtain ⟨t1, t2, t3, f1, f2, f3⟩ := has3_blk L4
    go_wp2_with fail
    exact bodyPost_ret (v := zeroS) (by simp [results, Tryz.results39, go_sem, t1, t2, t3, zeroS]) rfl ⟨by rw [HN.out], ((b1.setCell (p := ⟨w.heap.size + 4, 0, none⟩) (by simp) _).setCell (p := ⟨w.heap.size + 4, 1, none⟩) (by simp) _).setCell (p := ⟨w.heap.size + 4, 2, none⟩) (by simp) _⟩
  | true =>
    have c00 := L0.c8_0
    have c01 := L0.c8_1
    have c02 := L0.c8_2
    have c03 := L0.c8_3
    have c04 := L0.c8_4
    have c05 := L0.c8_5
    have c06 := L0.c8_6
    have c07 := L0.c8_7
    have c10 := L1.cell0 (i := 0) (v := .int .i64 sX) rfl
    have c11 := L1.cell0 (i := 1) (v := .int .i64 sY) rfl
    have c12 := L1.cell0 (i := 2) (v := .int .i64 sD) rfl
    have c20 := L2.cell0 (i := 0) (v := .int .i64 uN) rfl
    have c21 := L2.cell0 (i := 1) (v := .int .i64 uD) rfl
    have c30 := L3.cell0 (i := 0) (v := .int .i64 tX) rfl
    have c31 := L3.cell0 (i := 1) (v := .int .i64 tY) rfl
    have c32 := L3.cell0 (i := 2) (v := .int .i64 tD) rfl
    by_cases d1 : sD ≤ 100000
    rotate_left
    · have HN := Lib.hid (ns_no (sX := sX) (sY := sY) (tX := tX) (tY := tY) (show nsC zs q bx cy lo hi ps qs sX sY sD uN uD tX tY tD = false by rw [HD.out, decide_eq_false d1]; simp))
      have hd : decide (100000 < sD) = true := decide_eq_true (by omega)
      clear d1
      obtain ⟨t1, t2, t3, f1, f2, f3⟩ := has3_blk L4
      go_wp2_with fail
      exact bodyPost_ret (v := zeroS) (by simp [results, Tryz.results39, go_sem, t1, t2, t3, zeroS]) rfl ⟨by rw [HN.out], ((b1.setCell (p := ⟨w.heap.size + 4, 0, none⟩) (by simp) _).setCell (p := ⟨w.heap.size + 4, 1, none⟩) (by simp) _).setCell (p := ⟨w.heap.size + 4, 2, none⟩) (by simp) _⟩
    have hd1 : decide (100000 < sD) = false := decide_eq_false (by omega)
    go_wp2_with fail
    refine (HKU.out _).mono ?_
    rintro e v2 ⟨rfl, bl2⟩
    clear c00 c01 c02 c03 c04 c05 c06 c07 c10 c11 c12 c20 c21 c30 c31 c32
    have b2 := below_to b1 bl2
    have K0 := L0.to bl2
    have K1 := L1.to bl2
    have K2 := L2.to bl2
    have K3 := L3.to bl2
    have K4 := L4.to bl2
    clear bl2 b1 L0 L1 L2 L3 L4
    cases h2 : (okR uN uD && decide (uD ≤ 1000) && inB uN (-1000 * uD) (1000 * uD)) with
    | false =>
      have HN := Lib.hid (ns_no (sX := sX) (sY := sY) (tX := tX) (tY := tY) (show nsC zs q bx cy lo hi ps qs sX sY sD uN uD tX tY tD = false by rw [HD.out]; simp only [Bool.and_eq_false_iff] at h2; rcases h2 with (h | h) | h <;> simp [h]))
      have c00 := K0.c8_0
      have c01 := K0.c8_1
      have c02 := K0.c8_2
      have c03 := K0.c8_3
      have c04 := K0.c8_4
      have c05 := K0.c8_5
      have c06 := K0.c8_6
      have c07 := K0.c8_7
      have c10 := K1.cell0 (i := 0) (v := .int .i64 sX) rfl
      have c11 := K1.cell0 (i := 1) (v := .int .i64 sY) rfl
      have c12 := K1.cell0 (i := 2) (v := .int .i64 sD) rfl
      have c20 := K2.cell0 (i := 0) (v := .int .i64 uN) rfl
      have c21 := K2.cell0 (i := 1) (v := .int .i64 uD) rfl
      have c30 := K3.cell0 (i := 0) (v := .int .i64 tX) rfl
      have c31 := K3.cell0 (i := 1) (v := .int .i64 tY) rfl
      have c32 := K3.cell0 (i := 2) (v := .int .i64 tD) rfl
      clear h2
      obtain ⟨t1, t2, t3, f1, f2, f3⟩ := has3_blk K4
      go_wp2_with fail
      exact bodyPost_ret (v := zeroS) (by simp [results, Tryz.results39, go_sem, t1, t2, t3, zeroS]) rfl ⟨by rw [HN.out], ((b2.setCell (p := ⟨w.heap.size + 4, 0, none⟩) (by simp) _).setCell (p := ⟨w.heap.size + 4, 1, none⟩) (by simp) _).setCell (p := ⟨w.heap.size + 4, 2, none⟩) (by simp) _⟩
    | true =>
      have c00 := K0.c8_0
      have c01 := K0.c8_1
      have c02 := K0.c8_2
      have c03 := K0.c8_3
      have c04 := K0.c8_4
      have c05 := K0.c8_5
      have c06 := K0.c8_6
      have c07 := K0.c8_7
      have c10 := K1.cell0 (i := 0) (v := .int .i64 sX) rfl
      have c11 := K1.cell0 (i := 1) (v := .int .i64 sY) rfl
      have c12 := K1.cell0 (i := 2) (v := .int .i64 sD) rfl
      have c20 := K2.cell0 (i := 0) (v := .int .i64 uN) rfl
      have c21 := K2.cell0 (i := 1) (v := .int .i64 uD) rfl
      have c30 := K3.cell0 (i := 0) (v := .int .i64 tX) rfl
      have c31 := K3.cell0 (i := 1) (v := .int .i64 tY) rfl
      have c32 := K3.cell0 (i := 2) (v := .int .i64 tD) rfl
      go_wp2_with fail
      refine (HKT.out _).mono ?_
      rintro e v3 ⟨rfl, bl3⟩
      clear c00 c01 c02 c03 c04 c05 c06 c07 c10 c11 c12 c20 c21 c30 c31 c32
      have b3 := below_to b2 bl3
      have L0 := K0.to bl3
      have L1 := K1.to bl3
      have L2 := K2.to bl3
      have L3 := K3.to bl3
      have L4 := K4.to bl3
      clear bl3 b2 K0 K1 K2 K3 K4
      cases h3 : okS tX tY tD with
      | false =>
        have HN := Lib.hid (ns_no (sX := sX) (sY := sY) (tX := tX) (tY := tY) (show nsC zs q bx cy lo hi ps qs sX sY sD uN uD tX tY tD = false by rw [HD.out]; simp [h3]))
        have c00 := L0.c8_0
        have c01 := L0.c8_1
        have c02 := L0.c8_2
        have c03 := L0.c8_3
        have c04 := L0.c8_4
        have c05 := L0.c8_5
        have c06 := L0.c8_6
        have c07 := L0.c8_7
        have c10 := L1.cell0 (i := 0) (v := .int .i64 sX) rfl
        have c11 := L1.cell0 (i := 1) (v := .int .i64 sY) rfl
        have c12 := L1.cell0 (i := 2) (v := .int .i64 sD) rfl
        have c20 := L2.cell0 (i := 0) (v := .int .i64 uN) rfl
        have c21 := L2.cell0 (i := 1) (v := .int .i64 uD) rfl
        have c30 := L3.cell0 (i := 0) (v := .int .i64 tX) rfl
        have c31 := L3.cell0 (i := 1) (v := .int .i64 tY) rfl
        have c32 := L3.cell0 (i := 2) (v := .int .i64 tD) rfl
        clear h3
        obtain ⟨t1, t2, t3, f1, f2, f3⟩ := has3_blk L4
        go_wp2_with fail
        exact bodyPost_ret (v := zeroS) (by simp [results, Tryz.results39, go_sem, t1, t2, t3, zeroS]) rfl ⟨by rw [HN.out], ((b3.setCell (p := ⟨w.heap.size + 4, 0, none⟩) (by simp) _).setCell (p := ⟨w.heap.size + 4, 1, none⟩) (by simp) _).setCell (p := ⟨w.heap.size + 4, 2, none⟩) (by simp) _⟩
      | true =>
        have c00 := L0.c8_0
        have c01 := L0.c8_1
        have c02 := L0.c8_2
        have c03 := L0.c8_3
        have c04 := L0.c8_4
        have c05 := L0.c8_5
        have c06 := L0.c8_6
        have c07 := L0.c8_7
        have c10 := L1.cell0 (i := 0) (v := .int .i64 sX) rfl
        have c11 := L1.cell0 (i := 1) (v := .int .i64 sY) rfl
        have c12 := L1.cell0 (i := 2) (v := .int .i64 sD) rfl
        have c20 := L2.cell0 (i := 0) (v := .int .i64 uN) rfl
        have c21 := L2.cell0 (i := 1) (v := .int .i64 uD) rfl
        have c30 := L3.cell0 (i := 0) (v := .int .i64 tX) rfl
        have c31 := L3.cell0 (i := 1) (v := .int .i64 tY) rfl
        have c32 := L3.cell0 (i := 2) (v := .int .i64 tD) rfl
        by_cases d2 : tD ≤ 1000
        rotate_left
        · have HN := Lib.hid (ns_no (sX := sX) (sY := sY) (tX := tX) (tY := tY) (show nsC zs q bx cy lo hi ps qs sX sY sD uN uD tX tY tD = false by rw [HD.out, decide_eq_false d2]; simp))
          have hd : decide (1000 < tD) = true := decide_eq_true (by omega)
          clear d2
          obtain ⟨t1, t2, t3, f1, f2, f3⟩ := has3_blk L4
          go_wp2_with fail
          exact bodyPost_ret (v := zeroS) (by simp [results, Tryz.results39, go_sem, t1, t2, t3, zeroS]) rfl ⟨by rw [HN.out], ((b3.setCell (p := ⟨w.heap.size + 4, 0, none⟩) (by simp) _).setCell (p := ⟨w.heap.size + 4, 1, none⟩) (by simp) _).setCell (p := ⟨w.heap.size + 4, 2, none⟩) (by simp) _⟩
        have hd2 : decide (1000 < tD) = false := decide_eq_false (by omega)
        go_wp2_with fail
        refine (HR.out _ b3).mono ?_
        rintro e v4 ⟨rfl, bl4⟩
        clear c00 c01 c02 c03 c04 c05 c06 c07 c10 c11 c12 c20 c21 c30 c31 c32
        have b4 := below_to b3 bl4
        have K0 := L0.to bl4
        have K1 := L1.to bl4
        have K2 := L2.to bl4
        have K3 := L3.to bl4
        have K4 := L4.to bl4
        clear bl4 b3 L0 L1 L2 L3 L4
        cases h4 : rmB zs q bx cy lo hi ps qs with
        | false =>
          have HN := Lib.hid (ns_no (sX := sX) (sY := sY) (tX := tX) (tY := tY) (show nsC zs q bx cy lo hi ps qs sX sY sD uN uD tX tY tD = false by rw [HD.out]; simp [h4]))
          have c00 := K0.c8_0
          have c01 := K0.c8_1
          have c02 := K0.c8_2
          have c03 := K0.c8_3
          have c04 := K0.c8_4
          have c05 := K0.c8_5
          have c06 := K0.c8_6
          have c07 := K0.c8_7
          have c10 := K1.cell0 (i := 0) (v := .int .i64 sX) rfl
          have c11 := K1.cell0 (i := 1) (v := .int .i64 sY) rfl
          have c12 := K1.cell0 (i := 2) (v := .int .i64 sD) rfl
          have c20 := K2.cell0 (i := 0) (v := .int .i64 uN) rfl
          have c21 := K2.cell0 (i := 1) (v := .int .i64 uD) rfl
          have c30 := K3.cell0 (i := 0) (v := .int .i64 tX) rfl
          have c31 := K3.cell0 (i := 1) (v := .int .i64 tY) rfl
          have c32 := K3.cell0 (i := 2) (v := .int .i64 tD) rfl
          clear h4
          obtain ⟨t1, t2, t3, f1, f2, f3⟩ := has3_blk K4
          go_wp2_with fail
          exact bodyPost_ret (v := zeroS) (by simp [results, Tryz.results39, go_sem, t1, t2, t3, zeroS]) rfl ⟨by rw [HN.out], ((b4.setCell (p := ⟨w.heap.size + 4, 0, none⟩) (by simp) _).setCell (p := ⟨w.heap.size + 4, 1, none⟩) (by simp) _).setCell (p := ⟨w.heap.size + 4, 2, none⟩) (by simp) _⟩
        | true =>
          have hC : nsC zs q bx cy lo hi ps qs sX sY sD uN uD tX tY tD = true := by
            rw [HD.out, h1, h3, h4, decide_eq_true d1, decide_eq_true d2]
            simp only [Bool.and_eq_true] at h2
            rw [h2.1.1, h2.1.2, h2.2]
            rfl
          have HY := Lib.hid (ns_yes hC)
          obtain ⟨_, z0, z1, z2, z3, rfl, R⟩ := ns_rng hC
          have HST := Lib.hid (fun V (h : Below w.heap.size w V) => impl_sta am nm cm z0 z1 z2 z3 q bx cy sX sY sD uN uD tX tY tD V R HZ.out.lm (HZ.out.hm.below h))
          obtain ⟨X, Y, D, B, hans⟩ := ansS_ex (nsX [z0, z1, z2, z3] 0 1 q bx sX sY sD uN uD tX tD) (nsX [z0, z1, z2, z3] 2 3 q cy sX sY sD uN uD tY tD) (q * sD * uD * tD)
          have hans2 : nsA [z0, z1, z2, z3] q bx cy sX sY sD uN uD tX tY tD = .tuple #[.agg #[.int .i64 X, .int .i64 Y, .int .i64 D], .bool B] := hans
          rw [hans2] at HST HY
          have hfd : ∀ W : World, (Instr.field 91 (.agg #[.slice am nm cm, .int .i64 q, .int .i64 bx, .int .i64 cy, .slice am nm cm, .int .i64 q, .int .i64 bx, .int .i64 cy, .int .i64 lo, .int .i64 hi, .slice an nn cn, .slice al nl cl]) 0).run Tryz.prog W = .ok (.agg #[.slice am nm cm, .int .i64 q, .int .i64 bx, .int .i64 cy]) W := fun _ => by kernel_rfl
          clear h1 h2 h3 h4 d1 d2 hC R hans hans2 HD HKS HKT HKU HR hd1 hd2
          have T9 := has3_blk K4
          have l4 := K4.lt
          go_wp2
          go_region_held3 (fun w' => w'.cell? ⟨w.heap.size, 0, none⟩ = some (.slice am nm cm) ∧ w'.cell? ⟨w.heap.size, 1, none⟩ = some (.int .i64 q) ∧ w'.cell? ⟨w.heap.size, 2, none⟩ = some (.int .i64 bx) ∧ w'.cell? ⟨w.heap.size, 3, none⟩ = some (.int .i64 cy) ∧ w'.cell? ⟨w.heap.size, 4, none⟩ = some (.int .i64 lo) ∧ w'.cell? ⟨w.heap.size, 5, none⟩ = some (.int .i64 hi) ∧ w'.cell? ⟨w.heap.size, 6, none⟩ = some (.slice an nn cn) ∧ w'.cell? ⟨w.heap.size, 7, none⟩ = some (.slice al nl cl) ∧ w'.cell? ⟨w.heap.size + 1, 0, none⟩ = some (.int .i64 sX) ∧ w'.cell? ⟨w.heap.size + 1, 1, none⟩ = some (.int .i64 sY) ∧ w'.cell? ⟨w.heap.size + 1, 2, none⟩ = some (.int .i64 sD) ∧ w'.cell? ⟨w.heap.size + 2, 0, none⟩ = some (.int .i64 uN) ∧ w'.cell? ⟨w.heap.size + 2, 1, none⟩ = some (.int .i64 uD) ∧ w'.cell? ⟨w.heap.size + 3, 0, none⟩ = some (.int .i64 tX) ∧ w'.cell? ⟨w.heap.size + 3, 1, none⟩ = some (.int .i64 tY) ∧ w'.cell? ⟨w.heap.size + 3, 2, none⟩ = some (.int .i64 tD))
            (first | ((with_reducible refine ns_keep K0 K1 K2 K3 ?_); (repeat (first | exact Below.refl _ _ | refine below_drw ?_ | refine below_to ?_ (by assumption))); done) | ((with_reducible refine ns_put K0 K1 K2 K3 ?_ (by omega) (by omega) (by omega) (by omega)); repeat (first | exact Below.refl _ _ | refine below_drw ?_ | refine below_to ?_ (by assumption))))
            (first | (go_at_call 56; (with_reducible refine (HW.out _).mono ?_); rintro e x1 ⟨rfl, xl1⟩) | (go_at_call 85; (with_reducible refine (HST.out _ ?_).mono ?_); (focus (repeat (first | exact b4 | refine below_drw ?_ | refine below_to ?_ (by assumption)))); rintro e x2 ⟨rfl, xl2⟩; have hB2 : Below v4.heap.size v4 x2 := (by refine below_to ?_ xl2; repeat (first | exact Below.refl _ _ | refine below_drw ?_ | refine below_to ?_ (by assumption))); obtain ⟨s1, s2, s3, g4, g5, g6⟩ := has3_to hB2 T9))
          all_goals
            have b9 := below_to b4 hB2
            go_wp2_with fail
            exact bodyPost_ret (v := .tuple #[.agg #[.int .i64 X, .int .i64 Y, .int .i64 D], .bool B]) (by simp [results, Tryz.results39, go_sem, s1, s2, s3]) rfl ⟨by rw [HY.out], ((b9.setCell (p := ⟨w.heap.size + 4, 0, none⟩) (by simp) _).setCell (p := ⟨w.heap.size + 4, 1, none⟩) (by simp) _).setCell (p := ⟨w.heap.size + 4, 2, none⟩) (by simp) _⟩

theorem ansS_scale {g : Nat} (hg : 0 < g) (x y d : Int) : ansS (g * x) (g * y) (g * d) = ansS x y d := by
  have hgi : (0 : Int) < g := by omega
  have h1 : hasS (g * x) (g * y) (g * d) = hasS x y d := by
    unfold hasS
    rw [gS_scale (hk := hgi), Int.mul_tdiv_mul_of_pos _ _ hgi, Int.mul_tdiv_mul_of_pos _ _ hgi, Int.mul_tdiv_mul_of_pos _ _ hgi]
    congr 1
    have : (1 ≤ (g : Int) * d) ↔ 1 ≤ d := by
      constructor
      · intro h
        rcases Int.lt_or_le 0 d with h2 | h2
        · omega
        · have h3 := Int.mul_le_mul_of_nonneg_left h2 (Int.le_of_lt hgi)
          rw [Int.mul_zero] at h3
          omega
      · intro h
        have := Int.mul_pos hgi (show 0 < d by omega)
        omega
    exact decide_eq_decide.2 this
  unfold ansS
  rw [h1, gS_scale (hk := hgi), Int.mul_tdiv_mul_of_pos _ _ hgi, Int.mul_tdiv_mul_of_pos _ _ hgi, Int.mul_tdiv_mul_of_pos _ _ hgi]
theorem gS_dvd (x y d : Int) : ((gS x y d : Nat) : Int) ∣ x ∧ ((gS x y d : Nat) : Int) ∣ y ∧ ((gS x y d : Nat) : Int) ∣ d := by
  have h1 : ((gS x y d : Nat) : Int) ∣ ((Int.gcd x y : Nat) : Int) := Int.gcd_dvd_left ..
  exact ⟨Int.dvd_trans h1 (Int.gcd_dvd_left ..), Int.dvd_trans h1 (Int.gcd_dvd_right ..), Int.gcd_dvd_right ..⟩
theorem gS_pos2 {x y d : Int} (h : 1 ≤ d) : 0 < gS x y d := Nat.pos_of_ne_zero fun e => by
  have := (Int.gcd_eq_zero_iff.1 e).2
  omega

end Go.Proofs.YtibkmhmeoelpdaaGreat
