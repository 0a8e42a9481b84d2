/- MapSpot of the program and of the model over the translation. PullBack: the determinant, the program's move of an edge, the program's function, over the translation. -/
import Derived.Test.YtibkmhmeoelpdaaGreatIz
import Derived.Test.YtibkmhmeoelpdaaGreatMz
import Derived.Shelf.Abstract
namespace Go.Proofs.YtibkmhmeoelpdaaGreat
open Go.RowKit
open Geo (H3)
open Go.RowKit Go.Shelf

theorem map_four {zs : List Int} {q : Int} (h : mapB zs q = true) : ∃ a b c d : Int, zs = [a, b, c, d] ∧ (-20 ≤ a ∧ a ≤ 20) ∧ (-20 ≤ b ∧ b ≤ 20) ∧ (-20 ≤ c ∧ c ≤ 20) ∧ (-20 ≤ d ∧ d ≤ 20) ∧ 1 ≤ q ∧ q ≤ 20 := by
  unfold mapB at h
  simp only [Bool.and_eq_true, decide_eq_true_eq] at h
  obtain ⟨⟨h1, h2⟩, h3⟩ := h
  match zs, h1 with
  | [a, b, c, d], _ =>
    simp only [List.all_cons, List.all_nil, Bool.and_true, Bool.and_eq_true] at h3
    unfold inB at h2 h3
    simp only [Bool.and_eq_true, decide_eq_true_eq] at h2 h3
    exact ⟨a, b, c, d, rfl, h3.1, h3.2.1, h3.2.2.1, h3.2.2.2, h2.1, h2.2⟩
theorem cell_put3 {V X : World} {B : Nat} {q : Addr} {s u v z : Value} (hb : Below V.heap.size V X) (hn : B ≠ q.block) (h : V.cell? q = some s) : (((X.setCell ⟨B, 0, none⟩ u).setCell ⟨B, 1, none⟩ v).setCell ⟨B, 2, none⟩ z).cell? q = some s := by
  rw [World.cell?_setCell_far _ _ _ _ (by simpa using hn), World.cell?_setCell_far _ _ _ _ (by simpa using hn), World.cell?_setCell_far _ _ _ _ (by simpa using hn)]
  exact cell_to h hb
theorem nine9 {V X : World} {p0 p1 p2 p3 p4 p5 p6 p7 p8 : Addr} {a0 a1 a2 a3 a4 a5 a6 a7 a8 : Value} (h0 : V.cell? p0 = some a0) (h1 : V.cell? p1 = some a1) (h2 : V.cell? p2 = some a2) (h3 : V.cell? p3 = some a3) (h4 : V.cell? p4 = some a4) (h5 : V.cell? p5 = some a5) (h6 : V.cell? p6 = some a6) (h7 : V.cell? p7 = some a7) (h8 : V.cell? p8 = some a8) (hb : Below V.heap.size V X) :
    X.cell? p0 = some a0 ∧ X.cell? p1 = some a1 ∧ X.cell? p2 = some a2 ∧ X.cell? p3 = some a3 ∧ X.cell? p4 = some a4 ∧ X.cell? p5 = some a5 ∧ X.cell? p6 = some a6 ∧ X.cell? p7 = some a7 ∧ X.cell? p8 = some a8 :=
  ⟨cell_to h0 hb, cell_to h1 hb, cell_to h2 hb, cell_to h3 hb, cell_to h4 hb, cell_to h5 hb, cell_to h6 hb, cell_to h7 hb, cell_to h8 hb⟩
theorem nine_put {V X : World} {B : Nat} {p0 p1 p2 p3 p4 p5 p6 p7 p8 : Addr} {a0 a1 a2 a3 a4 a5 a6 a7 a8 u v z : Value} (hb : Below V.heap.size V X) (h0 : V.cell? p0 = some a0) (h1 : V.cell? p1 = some a1) (h2 : V.cell? p2 = some a2) (h3 : V.cell? p3 = some a3) (h4 : V.cell? p4 = some a4) (h5 : V.cell? p5 = some a5) (h6 : V.cell? p6 = some a6) (h7 : V.cell? p7 = some a7) (h8 : V.cell? p8 = some a8)
    (n0 : B ≠ p0.block) (n1 : B ≠ p1.block) (n2 : B ≠ p2.block) (n3 : B ≠ p3.block) (n4 : B ≠ p4.block) (n5 : B ≠ p5.block) (n6 : B ≠ p6.block) (n7 : B ≠ p7.block) (n8 : B ≠ p8.block) :
    (((X.setCell ⟨B, 0, none⟩ u).setCell ⟨B, 1, none⟩ v).setCell ⟨B, 2, none⟩ z).cell? p0 = some a0 ∧ (((X.setCell ⟨B, 0, none⟩ u).setCell ⟨B, 1, none⟩ v).setCell ⟨B, 2, none⟩ z).cell? p1 = some a1 ∧ (((X.setCell ⟨B, 0, none⟩ u).setCell ⟨B, 1, none⟩ v).setCell ⟨B, 2, none⟩ z).cell? p2 = some a2 ∧ (((X.setCell ⟨B, 0, none⟩ u).setCell ⟨B, 1, none⟩ v).setCell ⟨B, 2, none⟩ z).cell? p3 = some a3 ∧
    (((X.setCell ⟨B, 0, none⟩ u).setCell ⟨B, 1, none⟩ v).setCell ⟨B, 2, none⟩ z).cell? p4 = some a4 ∧ (((X.setCell ⟨B, 0, none⟩ u).setCell ⟨B, 1, none⟩ v).setCell ⟨B, 2, none⟩ z).cell? p5 = some a5 ∧ (((X.setCell ⟨B, 0, none⟩ u).setCell ⟨B, 1, none⟩ v).setCell ⟨B, 2, none⟩ z).cell? p6 = some a6 ∧ (((X.setCell ⟨B, 0, none⟩ u).setCell ⟨B, 1, none⟩ v).setCell ⟨B, 2, none⟩ z).cell? p7 = some a7 ∧ (((X.setCell ⟨B, 0, none⟩ u).setCell ⟨B, 1, none⟩ v).setCell ⟨B, 2, none⟩ z).cell? p8 = some a8 :=
  ⟨cell_put3 hb n0 h0, cell_put3 hb n1 h1, cell_put3 hb n2 h2, cell_put3 hb n3 h3, cell_put3 hb n4 h4, cell_put3 hb n5 h5, cell_put3 hb n6 h6, cell_put3 hb n7 h7, cell_put3 hb n8 h8⟩
/-- an edge that is pulled back through a map -/
def zg (zs : List Int) (i : Nat) : Int := zs.getD i 0
def detI (zs : List Int) : Int := zg zs 0 * zg zs 3 - zg zs 1 * zg zs 2
def pbB (zs : List Int) (q : Int) (h : H3) : Bool := hasH (h.a * zg zs 0 + h.b * zg zs 2) (h.a * zg zs 1 + h.b * zg zs 3) (h.c * q)
def pbM (zs : List Int) (q : Int) (h : H3) : H3 := redH (h.a * zg zs 0 + h.b * zg zs 2) (h.a * zg zs 1 + h.b * zg zs 3) (h.c * q)
theorem pb_ok (zs : List Int) (q : Int) (h : H3) (k : pbB zs q h = true) : okB (pbM zs q h) = true := red_ok k
theorem zat {w : World} {n : Nat} {am : Option Addr} {z0 z1 z2 z3 : Int} (hl : [z0, z1, z2, z3].length = n) (hA : IsAt w am [z0, z1, z2, z3]) : n = 4 ∧ ∃ g o, am = some ⟨g, o, none⟩ ∧ w.cell? ⟨g, o, none⟩ = some (.int .i64 z0) ∧ w.cell? ⟨g, o + 1, none⟩ = some (.int .i64 z1) ∧ w.cell? ⟨g, o + 2, none⟩ = some (.int .i64 z2) ∧ w.cell? ⟨g, o + 3, none⟩ = some (.int .i64 z3) := by
  obtain ⟨g, o, rfl, k0⟩ := hA 0 z0 rfl
  obtain ⟨g', o', e', k1⟩ := hA 1 z1 rfl
  obtain ⟨g'', o'', e'', k2⟩ := hA 2 z2 rfl
  obtain ⟨g3, o3, e3, k3⟩ := hA 3 z3 rfl
  simp only [Option.some.injEq, Addr.mk.injEq, and_true] at e' e'' e3
  obtain ⟨rfl, rfl⟩ := e'
  obtain ⟨rfl, rfl⟩ := e''
  obtain ⟨rfl, rfl⟩ := e3
  exact ⟨by simpa using hl.symm, g, o, rfl, k0, k1, k2, k3⟩
set_option maxRecDepth 100000 in
set_option maxHeartbeats 1600000 in
theorem impl_det (a : Option Addr) (n cap : Nat) (zs : List Int) (q : Int) (w : World) (hl : zs.length = n) (hm : mapB zs q = true) (hA : IsAt w a zs) :
    Calls Tryz.prog 115 #[.slice a n cap] w fun e w' => e = .returned (.int .i64 (detI zs)) ∧ Below w.heap.size w w' := by
  obtain ⟨z0, z1, z2, z3, rfl, ⟨a1, a2⟩, ⟨a3, a4⟩, ⟨a5, a6⟩, ⟨a7, a8⟩, _, _⟩ := map_four hm
  obtain ⟨rfl, g, o, rfl, k0, k1, k2, k3⟩ := zat hl hA
  have m0 := mul_in z0 z3 20 20 a1 a2 a7 a8
  have m1 := mul_in z1 z2 20 20 a3 a4 a5 a6
  have HD := Lib.hid (show detI [z0, z1, z2, z3] = z0 * z3 - z1 * z2 from rfl)
  generalize e0 : z0 * z3 = u0 at *
  generalize e1 : z1 * z2 = u1 at *
  have v0 : IntKind.i64.wrap u0 = u0 := IntWalk.i64_in _ (by omega)
  have v1 : IntKind.i64.wrap u1 = u1 := IntWalk.i64_in _ (by omega)
  have v2 : IntKind.i64.wrap (u0 - u1) = u0 - u1 := IntWalk.i64_in _ (by omega)
  clear hm hA hl
  go_enter Tryz.func115, Tryz.ntmps115
  go_wp2
  go_quiet (fail)
  go_wp2
  go_ret
  exact ⟨by rw [HD.out]; rfl, below_drew (Below.refl _ _) _⟩
set_option maxRecDepth 100000 in
set_option maxHeartbeats 3200000 in
/-- the program's move of an edge -/
theorem pb_call (p p' : Nat) (am : Option Addr) (n cm : Nat) (zs : List Int) (q : Int) (h : H3) (w : World) (hl : zs.length = n) (hm : mapB zs q = true) (k : okB h = true) (c1 : w.cell? ⟨p, 0, none⟩ = some (.slice am n cm)) (c2 : w.cell? ⟨p', 0, none⟩ = some (.int .i64 q)) (hA : IsAt w am zs) :
    Calls Tryz.prog 144 #[.agg #[.int .i64 h.a, .int .i64 h.b, .int .i64 h.c], .pointer (some ⟨p, 0, none⟩), .pointer (some ⟨p', 0, none⟩)] w fun e w' => e = .returned (.tuple #[.agg #[.int .i64 (pbM zs q h).a, .int .i64 (pbM zs q h).b, .int .i64 (pbM zs q h).c], .bool (pbB zs q h)]) ∧ Below w.heap.size w w' := by
  obtain ⟨z0, z1, z2, z3, rfl, ⟨a1, a2⟩, ⟨a3, a4⟩, ⟨a5, a6⟩, ⟨a7, a8⟩, q1, q2⟩ := map_four hm
  obtain ⟨rfl, g, o, rfl, k0, k1, k2, k3⟩ := zat hl hA
  obtain ⟨x1, x2, y1, y2, _, d1, d2, _⟩ := (okH_iff _ _ _).1 k
  have m0 := mul_in h.a z0 50000 20 x1 x2 a1 a2
  have m1 := mul_in h.b z2 50000 20 y1 y2 a5 a6
  have m2 := mul_in h.a z1 50000 20 x1 x2 a3 a4
  have m3 := mul_in h.b z3 50000 20 y1 y2 a7 a8
  have m4 := mul_in h.c q 100000000 20 d1 d2 (by omega) q2
  have HH := Lib.hid (fun W => impl_hof (h.a * z0 + h.b * z2) (h.a * z1 + h.b * z3) (h.c * q) W (by omega) (by omega) (by omega) (by omega) (by omega) (by omega))
  rw [ans_red, show hasH (h.a * z0 + h.b * z2) (h.a * z1 + h.b * z3) (h.c * q) = pbB [z0, z1, z2, z3] q h from rfl, show redH (h.a * z0 + h.b * z2) (h.a * z1 + h.b * z3) (h.c * q) = pbM [z0, z1, z2, z3] q h from rfl] at HH
  generalize pbB [z0, z1, z2, z3] q h = r at *
  generalize pbM [z0, z1, z2, z3] q h = s at *
  obtain ⟨xa, xb, xc⟩ := h
  obtain ⟨sa, sb, sc⟩ := s
  simp only at HH m0 m1 m2 m3 m4 ⊢
  have l1 := block_lt_of_cell c1
  have l2 := block_lt_of_cell c2
  have l3 := block_lt_of_cell k0
  simp only at l1 l2 l3
  have bV := below_bx2 (below_one w (.cells #[.int .i64 xa, .int .i64 xb, .int .i64 xc] 104)) (.cells #[.int .i64 0, .int .i64 0, .int .i64 0] 104)
  have r0 := (tri_new w (.int .i64 xa) (.int .i64 xb) (.int .i64 xc) 104).to (below_one _ (.cells #[.int .i64 0, .int .i64 0, .int .i64 0] 104))
  replace c1 := cell_to c1 bV
  replace c2 := cell_to c2 bV
  replace k0 := cell_to k0 bV
  replace k1 := cell_to k1 bV
  replace k2 := cell_to k2 bV
  replace k3 := cell_to k3 bV
  have T0 := has3_new (w.alloc (.cells #[.int .i64 xa, .int .i64 xb, .int .i64 xc] 104)) (.int .i64 0) (.int .i64 0) (.int .i64 0) 104
  rw [show (w.alloc (.cells #[.int .i64 xa, .int .i64 xb, .int .i64 xc] 104)).heap.size = w.heap.size + 1 by simp] at T0
  have n1 : w.heap.size + 1 ≠ g := by omega
  have n2 : w.heap.size + 1 ≠ p := by omega
  have n3 : w.heap.size + 1 ≠ p' := by omega
  have n4 : w.heap.size + 1 ≠ w.heap.size := by omega
  generalize e0 : xa * z0 = u0 at *
  generalize e1 : xb * z2 = u1 at *
  generalize e2 : xa * z1 = u2 at *
  generalize e3 : xb * z3 = u3 at *
  generalize e4 : xc * q = u4 at *
  have v0 : IntKind.i64.wrap u0 = u0 := IntWalk.i64_in _ (by omega)
  have v1 : IntKind.i64.wrap u1 = u1 := IntWalk.i64_in _ (by omega)
  have v2 : IntKind.i64.wrap u2 = u2 := IntWalk.i64_in _ (by omega)
  have v3 : IntKind.i64.wrap u3 = u3 := IntWalk.i64_in _ (by omega)
  have v4 : IntKind.i64.wrap u4 = u4 := IntWalk.i64_in _ (by omega)
  have v5 : IntKind.i64.wrap (u0 + u1) = u0 + u1 := IntWalk.i64_in _ (by omega)
  have v6 : IntKind.i64.wrap (u2 + u3) = u2 + u3 := IntWalk.i64_in _ (by omega)
  clear k hm hl hA
  obtain ⟨t1, t2, t3, f1, f2, f3⟩ := id T0
  obtain ⟨r1, r2, r3⟩ := id r0
  simp only [Nat.zero_add] at r1 r2 r3
  go_enter Tryz.func144, Tryz.ntmps144
  go_wp2_with fail
  generalize (w.alloc (.cells #[.int .i64 xa, .int .i64 xb, .int .i64 xc] 104)).alloc (.cells #[.int .i64 0, .int .i64 0, .int .i64 0] 104) = V at *
  go_region_held3 (fun w' => w'.cell? ⟨g, o, none⟩ = some (.int .i64 z0) ∧ w'.cell? ⟨g, o + 1, none⟩ = some (.int .i64 z1) ∧ w'.cell? ⟨g, o + 2, none⟩ = some (.int .i64 z2) ∧ w'.cell? ⟨g, o + 3, none⟩ = some (.int .i64 z3) ∧ w'.cell? ⟨p, 0, none⟩ = some (.slice (some ⟨g, o, none⟩) 4 cm) ∧ w'.cell? ⟨p', 0, none⟩ = some (.int .i64 q) ∧ w'.cell? ⟨w.heap.size, 0, none⟩ = some (.int .i64 xa) ∧ w'.cell? ⟨w.heap.size, 1, none⟩ = some (.int .i64 xb) ∧ w'.cell? ⟨w.heap.size, 2, none⟩ = some (.int .i64 xc))
    (first | (with_reducible refine nine9 k0 k1 k2 k3 c1 c2 r1 r2 r3 ?_; (repeat (first | exact Below.refl _ _ | refine below_drw ?_ | refine below_to ?_ (by assumption))); done) | (with_reducible refine nine_put ?_ k0 k1 k2 k3 c1 c2 r1 r2 r3 n1 n1 n1 n1 n2 n3 n4 n4 n4; repeat (first | exact Below.refl _ _ | refine below_drw ?_ | refine below_to ?_ (by assumption))))
    ((go_at_call 140; (with_reducible refine (HH.out _).mono ?_); rintro e w6 ⟨rfl, bl6⟩; obtain ⟨s1, s2, s3, f4, f5, f6⟩ := has3_to (below_to (below_drw (Below.refl _ _)) bl6) T0))
  all_goals
    have b6 := below_to bV (below_to (below_drw (Below.refl _ _)) bl6)
    go_wp2_with fail
    exact bodyPost_ret (v := .tuple #[.agg #[.int .i64 sa, .int .i64 sb, .int .i64 sc], .bool r]) (by simp [results, Tryz.results144, go_sem, s1, s2, s3]) rfl ⟨rfl, ((b6.setCell (p := ⟨w.heap.size + 1, 0, none⟩) (by simp) _).setCell (p := ⟨w.heap.size + 1, 1, none⟩) (by simp) _).setCell (p := ⟨w.heap.size + 1, 2, none⟩) (by simp) _⟩
end Go.Proofs.YtibkmhmeoelpdaaGreat
