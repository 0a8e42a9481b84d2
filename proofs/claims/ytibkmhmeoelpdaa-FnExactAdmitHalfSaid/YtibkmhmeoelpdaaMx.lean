/- MapSpot of the program and of the model over the translation. PullBack: the determinant, the program's move of an edge, the program's function, over the translation. -/
import Derived.Test.YtibkmhmeoelpdaaIz
import Derived.Test.YtibkmhmeoelpdaaMz
import Derived.Shelf.Abstract
namespace Go.Proofs.Ytibkmhmeoelpdaa
open Go.RowKit
open Geo (H3)
open Go.RowKit Go.Shelf

theorem map_four {zs : List Int} {q : Int} (h : mapB zs q = true) : ∃ a b c d : Int, zs = [a, b, c, d] ∧ (-20 ≤ a ∧ a ≤ 20) ∧ (-20 ≤ b ∧ b ≤ 20) ∧ (-20 ≤ c ∧ c ≤ 20) ∧ (-20 ≤ d ∧ d ≤ 20) ∧ 1 ≤ q ∧ q ≤ 20 := by
  unfold mapB at h
  simp only [Bool.and_eq_true, decide_eq_true_eq] at h
  obtain ⟨⟨h1, h2⟩, h3⟩ := h
  match zs, h1 with
  | [a, b, c, d], _ =>
    simp only [List.all_cons, List.all_nil, Bool.and_true, Bool.and_eq_true] at h3
    unfold inB at h2 h3
    simp only [Bool.and_eq_true, decide_eq_true_eq] at h2 h3
    exact ⟨a, b, c, d, rfl, h3.1, h3.2.1, h3.2.2.1, h3.2.2.2, h2.1, h2.2⟩
theorem seven7 {V X : World} {p0 p1 p2 p3 p4 p5 p6 : Addr} {a0 a1 a2 a3 a4 a5 a6 : Value} (h0 : V.cell? p0 = some a0) (h1 : V.cell? p1 = some a1) (h2 : V.cell? p2 = some a2) (h3 : V.cell? p3 = some a3) (h4 : V.cell? p4 = some a4) (h5 : V.cell? p5 = some a5) (h6 : V.cell? p6 = some a6) (hb : Below V.heap.size V X) :
    X.cell? p0 = some a0 ∧ X.cell? p1 = some a1 ∧ X.cell? p2 = some a2 ∧ X.cell? p3 = some a3 ∧ X.cell? p4 = some a4 ∧ X.cell? p5 = some a5 ∧ X.cell? p6 = some a6 :=
  ⟨cell_to h0 hb, cell_to h1 hb, cell_to h2 hb, cell_to h3 hb, cell_to h4 hb, cell_to h5 hb, cell_to h6 hb⟩
theorem seven_put {V X : World} {B b c i0 i1 i2 i3 j0 j1 j2 : Nat} {a0 a1 a2 a3 a4 a5 a6 u v z : Value} (hb : Below V.heap.size V X) (h0 : V.cell? ⟨b, i0, none⟩ = some a0) (h1 : V.cell? ⟨b, i1, none⟩ = some a1) (h2 : V.cell? ⟨b, i2, none⟩ = some a2) (h3 : V.cell? ⟨b, i3, none⟩ = some a3) (h4 : V.cell? ⟨c, j0, none⟩ = some a4) (h5 : V.cell? ⟨c, j1, none⟩ = some a5) (h6 : V.cell? ⟨c, j2, none⟩ = some a6) (n1 : B ≠ b) (n2 : B ≠ c) :
    (((X.setCell ⟨B, 0, none⟩ u).setCell ⟨B, 1, none⟩ v).setCell ⟨B, 2, none⟩ z).cell? ⟨b, i0, none⟩ = some a0 ∧ (((X.setCell ⟨B, 0, none⟩ u).setCell ⟨B, 1, none⟩ v).setCell ⟨B, 2, none⟩ z).cell? ⟨b, i1, none⟩ = some a1 ∧ (((X.setCell ⟨B, 0, none⟩ u).setCell ⟨B, 1, none⟩ v).setCell ⟨B, 2, none⟩ z).cell? ⟨b, i2, none⟩ = some a2 ∧ (((X.setCell ⟨B, 0, none⟩ u).setCell ⟨B, 1, none⟩ v).setCell ⟨B, 2, none⟩ z).cell? ⟨b, i3, none⟩ = some a3 ∧
    (((X.setCell ⟨B, 0, none⟩ u).setCell ⟨B, 1, none⟩ v).setCell ⟨B, 2, none⟩ z).cell? ⟨c, j0, none⟩ = some a4 ∧ (((X.setCell ⟨B, 0, none⟩ u).setCell ⟨B, 1, none⟩ v).setCell ⟨B, 2, none⟩ z).cell? ⟨c, j1, none⟩ = some a5 ∧ (((X.setCell ⟨B, 0, none⟩ u).setCell ⟨B, 1, none⟩ v).setCell ⟨B, 2, none⟩ z).cell? ⟨c, j2, none⟩ = some a6 := by
  have f : ∀ (q : Addr) (s : Value), B ≠ q.block → V.cell? q = some s → (((X.setCell ⟨B, 0, none⟩ u).setCell ⟨B, 1, none⟩ v).setCell ⟨B, 2, none⟩ z).cell? q = some s := fun q s hn h => by
    rw [World.cell?_setCell_far _ _ _ _ (by simpa using hn), World.cell?_setCell_far _ _ _ _ (by simpa using hn), World.cell?_setCell_far _ _ _ _ (by simpa using hn)]
    exact cell_to h hb
  exact ⟨f _ _ n1 h0, f _ _ n1 h1, f _ _ n1 h2, f _ _ n1 h3, f _ _ n2 h4, f _ _ n2 h5, f _ _ n2 h6⟩
/-- what MapSpot answers -/
def msV (x y d : Int) (zs : List Int) (q : Int) : Value := if okS x y d = true ∧ mapB zs q = true then ansS (zs.getD 0 0 * x + zs.getD 1 0 * y) (zs.getD 2 0 * x + zs.getD 3 0 * y) (q * d) else zeroS
theorem cell_put3 {V X : World} {B : Nat} {q : Addr} {s u v z : Value} (hb : Below V.heap.size V X) (hn : B ≠ q.block) (h : V.cell? q = some s) : (((X.setCell ⟨B, 0, none⟩ u).setCell ⟨B, 1, none⟩ v).setCell ⟨B, 2, none⟩ z).cell? q = some s := by
  rw [World.cell?_setCell_far _ _ _ _ (by simpa using hn), World.cell?_setCell_far _ _ _ _ (by simpa using hn), World.cell?_setCell_far _ _ _ _ (by simpa using hn)]
  exact cell_to h hb
theorem nine9 {V X : World} {p0 p1 p2 p3 p4 p5 p6 p7 p8 : Addr} {a0 a1 a2 a3 a4 a5 a6 a7 a8 : Value} (h0 : V.cell? p0 = some a0) (h1 : V.cell? p1 = some a1) (h2 : V.cell? p2 = some a2) (h3 : V.cell? p3 = some a3) (h4 : V.cell? p4 = some a4) (h5 : V.cell? p5 = some a5) (h6 : V.cell? p6 = some a6) (h7 : V.cell? p7 = some a7) (h8 : V.cell? p8 = some a8) (hb : Below V.heap.size V X) :
    X.cell? p0 = some a0 ∧ X.cell? p1 = some a1 ∧ X.cell? p2 = some a2 ∧ X.cell? p3 = some a3 ∧ X.cell? p4 = some a4 ∧ X.cell? p5 = some a5 ∧ X.cell? p6 = some a6 ∧ X.cell? p7 = some a7 ∧ X.cell? p8 = some a8 :=
  ⟨cell_to h0 hb, cell_to h1 hb, cell_to h2 hb, cell_to h3 hb, cell_to h4 hb, cell_to h5 hb, cell_to h6 hb, cell_to h7 hb, cell_to h8 hb⟩
theorem nine_put {V X : World} {B : Nat} {p0 p1 p2 p3 p4 p5 p6 p7 p8 : Addr} {a0 a1 a2 a3 a4 a5 a6 a7 a8 u v z : Value} (hb : Below V.heap.size V X) (h0 : V.cell? p0 = some a0) (h1 : V.cell? p1 = some a1) (h2 : V.cell? p2 = some a2) (h3 : V.cell? p3 = some a3) (h4 : V.cell? p4 = some a4) (h5 : V.cell? p5 = some a5) (h6 : V.cell? p6 = some a6) (h7 : V.cell? p7 = some a7) (h8 : V.cell? p8 = some a8)
    (n0 : B ≠ p0.block) (n1 : B ≠ p1.block) (n2 : B ≠ p2.block) (n3 : B ≠ p3.block) (n4 : B ≠ p4.block) (n5 : B ≠ p5.block) (n6 : B ≠ p6.block) (n7 : B ≠ p7.block) (n8 : B ≠ p8.block) :
    (((X.setCell ⟨B, 0, none⟩ u).setCell ⟨B, 1, none⟩ v).setCell ⟨B, 2, none⟩ z).cell? p0 = some a0 ∧ (((X.setCell ⟨B, 0, none⟩ u).setCell ⟨B, 1, none⟩ v).setCell ⟨B, 2, none⟩ z).cell? p1 = some a1 ∧ (((X.setCell ⟨B, 0, none⟩ u).setCell ⟨B, 1, none⟩ v).setCell ⟨B, 2, none⟩ z).cell? p2 = some a2 ∧ (((X.setCell ⟨B, 0, none⟩ u).setCell ⟨B, 1, none⟩ v).setCell ⟨B, 2, none⟩ z).cell? p3 = some a3 ∧
    (((X.setCell ⟨B, 0, none⟩ u).setCell ⟨B, 1, none⟩ v).setCell ⟨B, 2, none⟩ z).cell? p4 = some a4 ∧ (((X.setCell ⟨B, 0, none⟩ u).setCell ⟨B, 1, none⟩ v).setCell ⟨B, 2, none⟩ z).cell? p5 = some a5 ∧ (((X.setCell ⟨B, 0, none⟩ u).setCell ⟨B, 1, none⟩ v).setCell ⟨B, 2, none⟩ z).cell? p6 = some a6 ∧ (((X.setCell ⟨B, 0, none⟩ u).setCell ⟨B, 1, none⟩ v).setCell ⟨B, 2, none⟩ z).cell? p7 = some a7 ∧ (((X.setCell ⟨B, 0, none⟩ u).setCell ⟨B, 1, none⟩ v).setCell ⟨B, 2, none⟩ z).cell? p8 = some a8 :=
  ⟨cell_put3 hb n0 h0, cell_put3 hb n1 h1, cell_put3 hb n2 h2, cell_put3 hb n3 h3, cell_put3 hb n4 h4, cell_put3 hb n5 h5, cell_put3 hb n6 h6, cell_put3 hb n7 h7, cell_put3 hb n8 h8⟩
/-- an edge that is pulled back through a map -/
def zg (zs : List Int) (i : Nat) : Int := zs.getD i 0
def detI (zs : List Int) : Int := zg zs 0 * zg zs 3 - zg zs 1 * zg zs 2
def pbB (zs : List Int) (q : Int) (h : H3) : Bool := hasH (h.a * zg zs 0 + h.b * zg zs 2) (h.a * zg zs 1 + h.b * zg zs 3) (h.c * q)
def pbM (zs : List Int) (q : Int) (h : H3) : H3 := redH (h.a * zg zs 0 + h.b * zg zs 2) (h.a * zg zs 1 + h.b * zg zs 3) (h.c * q)
theorem pb_ok (zs : List Int) (q : Int) (h : H3) (k : pbB zs q h = true) : okB (pbM zs q h) = true := red_ok k
theorem zat {w : World} {n : Nat} {am : Option Addr} {z0 z1 z2 z3 : Int} (hl : [z0, z1, z2, z3].length = n) (hA : IsAt w am [z0, z1, z2, z3]) : n = 4 ∧ ∃ g o, am = some ⟨g, o, none⟩ ∧ w.cell? ⟨g, o, none⟩ = some (.int .i64 z0) ∧ w.cell? ⟨g, o + 1, none⟩ = some (.int .i64 z1) ∧ w.cell? ⟨g, o + 2, none⟩ = some (.int .i64 z2) ∧ w.cell? ⟨g, o + 3, none⟩ = some (.int .i64 z3) := by
  obtain ⟨g, o, rfl, k0⟩ := hA 0 z0 rfl
  obtain ⟨g', o', e', k1⟩ := hA 1 z1 rfl
  obtain ⟨g'', o'', e'', k2⟩ := hA 2 z2 rfl
  obtain ⟨g3, o3, e3, k3⟩ := hA 3 z3 rfl
  simp only [Option.some.injEq, Addr.mk.injEq, and_true] at e' e'' e3
  obtain ⟨rfl, rfl⟩ := e'
  obtain ⟨rfl, rfl⟩ := e''
  obtain ⟨rfl, rfl⟩ := e3
  exact ⟨by simpa using hl.symm, g, o, rfl, k0, k1, k2, k3⟩
set_option maxRecDepth 100000 in
set_option maxHeartbeats 1600000 in
theorem impl_det (a : Option Addr) (n cap : Nat) (zs : List Int) (q : Int) (w : World) (hl : zs.length = n) (hm : mapB zs q = true) (hA : IsAt w a zs) :
    Calls Try.prog 89 #[.slice a n cap] w fun e w' => e = .returned (.int .i64 (detI zs)) ∧ Below w.heap.size w w' := by
  obtain ⟨z0, z1, z2, z3, rfl, ⟨a1, a2⟩, ⟨a3, a4⟩, ⟨a5, a6⟩, ⟨a7, a8⟩, _, _⟩ := map_four hm
  obtain ⟨rfl, g, o, rfl, k0, k1, k2, k3⟩ := zat hl hA
  have m0 := mul_in z0 z3 20 20 a1 a2 a7 a8
  have m1 := mul_in z1 z2 20 20 a3 a4 a5 a6
  have HD := Lib.hid (show detI [z0, z1, z2, z3] = z0 * z3 - z1 * z2 from rfl)
  generalize e0 : z0 * z3 = u0 at *
  generalize e1 : z1 * z2 = u1 at *
  have v0 : IntKind.i64.wrap u0 = u0 := IntWalk.i64_in _ (by omega)
  have v1 : IntKind.i64.wrap u1 = u1 := IntWalk.i64_in _ (by omega)
  have v2 : IntKind.i64.wrap (u0 - u1) = u0 - u1 := IntWalk.i64_in _ (by omega)
  clear hm hA hl
  go_enter Try.func89, Try.ntmps89
  go_wp2
  go_quiet (fail)
  go_wp2
  go_ret
  exact ⟨by rw [HD.out]; rfl, below_drew (Below.refl _ _) _⟩
end Go.Proofs.Ytibkmhmeoelpdaa
