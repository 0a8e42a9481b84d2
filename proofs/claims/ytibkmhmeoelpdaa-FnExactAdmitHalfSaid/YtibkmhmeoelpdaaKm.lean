/- NextSpot of the program and of the model, over the translation. NextSpot of the model, over the translation. -/
import Derived.Test.YtibkmhmeoelpdaaKd
namespace Go.Proofs.Ytibkmhmeoelpdaa
open Go.RowKit
open Geo (H3)

/-- whether NextSpot's arguments are valid -/
def nsC (zs : List Int) (q bx cy lo hi : Int) (ps qs : List H3) (sX sY sD uN uD tX tY tD : Int) : Bool := rmB zs q bx cy lo hi ps qs && okS sX sY sD && okR uN uD && okS tX tY tD && decide (sD ≤ 100000) && decide (tD ≤ 1000) && decide (uD ≤ 1000) && inB uN (-1000 * uD) (1000 * uD)
def nsX (zs : List Int) (i j : Nat) (q b sX sY sD uN uD t tD : Int) : Int := (zg zs i * sX + zg zs j * sY) * (uD * tD) + b * uN * (q * sD * tD) + t * (q * sD * uD)
def nsA (zs : List Int) (q bx cy sX sY sD uN uD tX tY tD : Int) : Value := ansS (nsX zs 0 1 q bx sX sY sD uN uD tX tD) (nsX zs 2 3 q cy sX sY sD uN uD tY tD) (q * sD * uD * tD)
def nsV (zs : List Int) (q bx cy lo hi : Int) (ps qs : List H3) (sX sY sD uN uD tX tY tD : Int) : Value := if nsC zs q bx cy lo hi ps qs sX sY sD uN uD tX tY tD = true then nsA zs q bx cy sX sY sD uN uD tX tY tD else zeroS
theorem ns_no {zs : List Int} {q bx cy lo hi : Int} {ps qs : List H3} {sX sY sD uN uD tX tY tD : Int} (h : nsC zs q bx cy lo hi ps qs sX sY sD uN uD tX tY tD = false) : nsV zs q bx cy lo hi ps qs sX sY sD uN uD tX tY tD = zeroS := if_neg (by rw [h]; simp)
theorem ns_yes {zs : List Int} {q bx cy lo hi : Int} {ps qs : List H3} {sX sY sD uN uD tX tY tD : Int} (h : nsC zs q bx cy lo hi ps qs sX sY sD uN uD tX tY tD = true) : nsV zs q bx cy lo hi ps qs sX sY sD uN uD tX tY tD = nsA zs q bx cy sX sY sD uN uD tX tY tD := if_pos h
theorem ns_ex (zs : List Int) (q bx cy lo hi : Int) (ps qs : List H3) (sX sY sD uN uD tX tY tD : Int) : ∃ X Y D : Int, ∃ B : Bool, nsV zs q bx cy lo hi ps qs sX sY sD uN uD tX tY tD = .tuple #[.agg #[.int .i64 X, .int .i64 Y, .int .i64 D], .bool B] := by
  unfold nsV
  split
  · exact ansS_ex _ _ _
  · exact ⟨0, 0, 0, false, rfl⟩
theorem rm_rng2 {zs : List Int} {q bx cy lo hi : Int} {ps qs : List H3} (h : rmB zs q bx cy lo hi ps qs = true) : mapB zs q = true ∧ (-100 ≤ bx ∧ bx ≤ 100) ∧ (-100 ≤ cy ∧ cy ≤ 100) := by
  rw [rm_eq] at h
  simp only [Bool.and_eq_true, Bool.not_eq_true', decide_eq_false_iff_not] at h
  obtain ⟨⟨⟨⟨⟨⟨⟨⟨⟨h1, _⟩, h2⟩, h3⟩, h4⟩, h5⟩, h6⟩, h7⟩, h8⟩, h9⟩ := h
  exact ⟨h1, of_inB h2, of_inB h3⟩
/-- what valid arguments of NextSpot say of their numbers -/
structure NsR (z0 z1 z2 z3 q bx cy sX sY sD uN uD tX tY tD : Int) : Prop where
  z0 : -20 ≤ z0 ∧ z0 ≤ 20
  z1 : -20 ≤ z1 ∧ z1 ≤ 20
  z2 : -20 ≤ z2 ∧ z2 ≤ 20
  z3 : -20 ≤ z3 ∧ z3 ≤ 20
  q : 1 ≤ q ∧ q ≤ 20
  bx : -100 ≤ bx ∧ bx ≤ 100
  cy : -100 ≤ cy ∧ cy ≤ 100
  sX : -100000000 ≤ sX ∧ sX ≤ 100000000
  sY : -100000000 ≤ sY ∧ sY ≤ 100000000
  sD : 1 ≤ sD ∧ sD ≤ 100000
  uN : -1000000 ≤ uN ∧ uN ≤ 1000000
  uD : 1 ≤ uD ∧ uD ≤ 1000
  tX : -1000000 ≤ tX ∧ tX ≤ 1000000
  tY : -1000000 ≤ tY ∧ tY ≤ 1000000
  tD : 1 ≤ tD ∧ tD ≤ 1000
theorem ns_rng {zs : List Int} {q bx cy lo hi : Int} {ps qs : List H3} {sX sY sD uN uD tX tY tD : Int} (h : nsC zs q bx cy lo hi ps qs sX sY sD uN uD tX tY tD = true) :
    mapB zs q = true ∧ ∃ z0 z1 z2 z3, zs = [z0, z1, z2, z3] ∧ NsR z0 z1 z2 z3 q bx cy sX sY sD uN uD tX tY tD := by
  unfold nsC at h
  simp only [Bool.and_eq_true, decide_eq_true_eq] at h
  obtain ⟨⟨⟨⟨⟨⟨⟨h1, h2⟩, h3⟩, h4⟩, h5⟩, h6⟩, h7⟩, h8⟩ := h
  obtain ⟨m, b, c⟩ := rm_rng2 h1
  obtain ⟨z0, z1, z2, z3, e, d0, d1, d2, d3, q1, q2⟩ := map_four m
  obtain ⟨s1, s2, s3, s4, s5, s6, _⟩ := (okS_iff _ _ _).1 h2
  obtain ⟨t1, t2, t3, t4, t5, t6, _⟩ := (okS_iff _ _ _).1 h4
  obtain ⟨u1, _, _, _, _⟩ := (okR_iff _ _).1 h3
  have u := of_inB h8
  exact ⟨m, z0, z1, z2, z3, e, d0, d1, d2, d3, ⟨q1, q2⟩, b, c, by omega, by omega, by omega, by omega, by omega, by omega, by omega, by omega⟩
/-- the numbers of the way from a state to the next -/
theorem mul_box {a b M N : Int} (h1 : -M ≤ a) (h2 : a ≤ M) (h3 : -N ≤ b) (h4 : b ≤ N) : -(M * N) ≤ a * b ∧ a * b ≤ M * N := mul_in a b M N h1 h2 h3 h4

theorem has3_blk {W : World} {B : Nat} {a b c : Value} {T : TypeId} (h : Blk W B #[a, b, c] T) : Has3 W B a b c := ⟨h.cell0 (i := 0) rfl, h.cell0 (i := 1) rfl, h.cell0 (i := 2) rfl, h.free 0, h.free 1, h.free 2⟩
theorem ns_keep {V X : World} {B0 B1 B2 B3 : Nat} {a0 a1 a2 a3 a4 a5 a6 a7 s0 s1 s2 u0 u1 t0 t1 t2 : Value} {T0 T1 T2 T3 : TypeId} (h0 : Blk V B0 #[a0, a1, a2, a3, a4, a5, a6, a7] T0) (h1 : Blk V B1 #[s0, s1, s2] T1) (h2 : Blk V B2 #[u0, u1] T2) (h3 : Blk V B3 #[t0, t1, t2] T3) (hb : Below V.heap.size V X) : X.cell? ⟨B0, 0, none⟩ = some a0 ∧ X.cell? ⟨B0, 1, none⟩ = some a1 ∧ X.cell? ⟨B0, 2, none⟩ = some a2 ∧ X.cell? ⟨B0, 3, none⟩ = some a3 ∧ X.cell? ⟨B0, 4, none⟩ = some a4 ∧ X.cell? ⟨B0, 5, none⟩ = some a5 ∧ X.cell? ⟨B0, 6, none⟩ = some a6 ∧ X.cell? ⟨B0, 7, none⟩ = some a7 ∧ X.cell? ⟨B1, 0, none⟩ = some s0 ∧ X.cell? ⟨B1, 1, none⟩ = some s1 ∧ X.cell? ⟨B1, 2, none⟩ = some s2 ∧ X.cell? ⟨B2, 0, none⟩ = some u0 ∧ X.cell? ⟨B2, 1, none⟩ = some u1 ∧ X.cell? ⟨B3, 0, none⟩ = some t0 ∧ X.cell? ⟨B3, 1, none⟩ = some t1 ∧ X.cell? ⟨B3, 2, none⟩ = some t2 :=
  ⟨cell_to (h0.c8_0) hb, cell_to (h0.c8_1) hb, cell_to (h0.c8_2) hb, cell_to (h0.c8_3) hb, cell_to (h0.c8_4) hb, cell_to (h0.c8_5) hb, cell_to (h0.c8_6) hb, cell_to (h0.c8_7) hb, cell_to (h1.cell0 (i := 0) (v := s0) rfl) hb, cell_to (h1.cell0 (i := 1) (v := s1) rfl) hb, cell_to (h1.cell0 (i := 2) (v := s2) rfl) hb, cell_to (h2.cell0 (i := 0) (v := u0) rfl) hb, cell_to (h2.cell0 (i := 1) (v := u1) rfl) hb, cell_to (h3.cell0 (i := 0) (v := t0) rfl) hb, cell_to (h3.cell0 (i := 1) (v := t1) rfl) hb, cell_to (h3.cell0 (i := 2) (v := t2) rfl) hb⟩
theorem ns_put {V X : World} {B0 B1 B2 B3 : Nat} {a0 a1 a2 a3 a4 a5 a6 a7 s0 s1 s2 u0 u1 t0 t1 t2 : Value} {T0 T1 T2 T3 : TypeId} (h0 : Blk V B0 #[a0, a1, a2, a3, a4, a5, a6, a7] T0) (h1 : Blk V B1 #[s0, s1, s2] T1) (h2 : Blk V B2 #[u0, u1] T2) (h3 : Blk V B3 #[t0, t1, t2] T3) (hb : Below V.heap.size V X) {B : Nat} {u v z : Value} (n0 : B ≠ B0) (n1 : B ≠ B1) (n2 : B ≠ B2) (n3 : B ≠ B3) : (((X.setCell ⟨B, 0, none⟩ u).setCell ⟨B, 1, none⟩ v).setCell ⟨B, 2, none⟩ z).cell? ⟨B0, 0, none⟩ = some a0 ∧ (((X.setCell ⟨B, 0, none⟩ u).setCell ⟨B, 1, none⟩ v).setCell ⟨B, 2, none⟩ z).cell? ⟨B0, 1, none⟩ = some a1 ∧ (((X.setCell ⟨B, 0, none⟩ u).setCell ⟨B, 1, none⟩ v).setCell ⟨B, 2, none⟩ z).cell? ⟨B0, 2, none⟩ = some a2 ∧ (((X.setCell ⟨B, 0, none⟩ u).setCell ⟨B, 1, none⟩ v).setCell ⟨B, 2, none⟩ z).cell? ⟨B0, 3, none⟩ = some a3 ∧ (((X.setCell ⟨B, 0, none⟩ u).setCell ⟨B, 1, none⟩ v).setCell ⟨B, 2, none⟩ z).cell? ⟨B0, 4, none⟩ = some a4 ∧ (((X.setCell ⟨B, 0, none⟩ u).setCell ⟨B, 1, none⟩ v).setCell ⟨B, 2, none⟩ z).cell? ⟨B0, 5, none⟩ = some a5 ∧ (((X.setCell ⟨B, 0, none⟩ u).setCell ⟨B, 1, none⟩ v).setCell ⟨B, 2, none⟩ z).cell? ⟨B0, 6, none⟩ = some a6 ∧ (((X.setCell ⟨B, 0, none⟩ u).setCell ⟨B, 1, none⟩ v).setCell ⟨B, 2, none⟩ z).cell? ⟨B0, 7, none⟩ = some a7 ∧ (((X.setCell ⟨B, 0, none⟩ u).setCell ⟨B, 1, none⟩ v).setCell ⟨B, 2, none⟩ z).cell? ⟨B1, 0, none⟩ = some s0 ∧ (((X.setCell ⟨B, 0, none⟩ u).setCell ⟨B, 1, none⟩ v).setCell ⟨B, 2, none⟩ z).cell? ⟨B1, 1, none⟩ = some s1 ∧ (((X.setCell ⟨B, 0, none⟩ u).setCell ⟨B, 1, none⟩ v).setCell ⟨B, 2, none⟩ z).cell? ⟨B1, 2, none⟩ = some s2 ∧ (((X.setCell ⟨B, 0, none⟩ u).setCell ⟨B, 1, none⟩ v).setCell ⟨B, 2, none⟩ z).cell? ⟨B2, 0, none⟩ = some u0 ∧ (((X.setCell ⟨B, 0, none⟩ u).setCell ⟨B, 1, none⟩ v).setCell ⟨B, 2, none⟩ z).cell? ⟨B2, 1, none⟩ = some u1 ∧ (((X.setCell ⟨B, 0, none⟩ u).setCell ⟨B, 1, none⟩ v).setCell ⟨B, 2, none⟩ z).cell? ⟨B3, 0, none⟩ = some t0 ∧ (((X.setCell ⟨B, 0, none⟩ u).setCell ⟨B, 1, none⟩ v).setCell ⟨B, 2, none⟩ z).cell? ⟨B3, 1, none⟩ = some t1 ∧ (((X.setCell ⟨B, 0, none⟩ u).setCell ⟨B, 1, none⟩ v).setCell ⟨B, 2, none⟩ z).cell? ⟨B3, 2, none⟩ = some t2 :=
  ⟨cell_put3 hb n0 (h0.c8_0), cell_put3 hb n0 (h0.c8_1), cell_put3 hb n0 (h0.c8_2), cell_put3 hb n0 (h0.c8_3), cell_put3 hb n0 (h0.c8_4), cell_put3 hb n0 (h0.c8_5), cell_put3 hb n0 (h0.c8_6), cell_put3 hb n0 (h0.c8_7), cell_put3 hb n1 (h1.cell0 (i := 0) (v := s0) rfl), cell_put3 hb n1 (h1.cell0 (i := 1) (v := s1) rfl), cell_put3 hb n1 (h1.cell0 (i := 2) (v := s2) rfl), cell_put3 hb n2 (h2.cell0 (i := 0) (v := u0) rfl), cell_put3 hb n2 (h2.cell0 (i := 1) (v := u1) rfl), cell_put3 hb n3 (h3.cell0 (i := 0) (v := t0) rfl), cell_put3 hb n3 (h3.cell0 (i := 1) (v := t1) rfl), cell_put3 hb n3 (h3.cell0 (i := 2) (v := t2) rfl)⟩
theorem ansS_scale {g : Nat} (hg : 0 < g) (x y d : Int) : ansS (g * x) (g * y) (g * d) = ansS x y d := by
  have hgi : (0 : Int) < g := by omega
  have h1 : hasS (g * x) (g * y) (g * d) = hasS x y d := by
    unfold hasS
    rw [gS_scale (hk := hgi), Int.mul_tdiv_mul_of_pos _ _ hgi, Int.mul_tdiv_mul_of_pos _ _ hgi, Int.mul_tdiv_mul_of_pos _ _ hgi]
    congr 1
    have : (1 ≤ (g : Int) * d) ↔ 1 ≤ d := by
      constructor
      · intro h
        rcases Int.lt_or_le 0 d with h2 | h2
        · omega
        · have h3 := Int.mul_le_mul_of_nonneg_left h2 (Int.le_of_lt hgi)
          rw [Int.mul_zero] at h3
          omega
      · intro h
        have := Int.mul_pos hgi (show 0 < d by omega)
        omega
    exact decide_eq_decide.2 this
  unfold ansS
  rw [h1, gS_scale (hk := hgi), Int.mul_tdiv_mul_of_pos _ _ hgi, Int.mul_tdiv_mul_of_pos _ _ hgi, Int.mul_tdiv_mul_of_pos _ _ hgi]
theorem gS_dvd (x y d : Int) : ((gS x y d : Nat) : Int) ∣ x ∧ ((gS x y d : Nat) : Int) ∣ y ∧ ((gS x y d : Nat) : Int) ∣ d := by
  have h1 : ((gS x y d : Nat) : Int) ∣ ((Int.gcd x y : Nat) : Int) := Int.gcd_dvd_left ..
  exact ⟨Int.dvd_trans h1 (Int.gcd_dvd_left ..), Int.dvd_trans h1 (Int.gcd_dvd_right ..), Int.gcd_dvd_right ..⟩
theorem gS_pos2 {x y d : Int} (h : 1 ≤ d) : 0 < gS x y d := Nat.pos_of_ne_zero fun e => by
  have := (Int.gcd_eq_zero_iff.1 e).2
  omega

end Go.Proofs.Ytibkmhmeoelpdaa
