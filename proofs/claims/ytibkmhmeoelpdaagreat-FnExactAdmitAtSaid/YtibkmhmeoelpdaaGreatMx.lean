/- MapSpot of the program and of the model over the translation. PullBack: the determinant, the program's move of an edge, the program's function, over the translation. -/
import Derived.Test.YtibkmhmeoelpdaaGreatIz
import Derived.Test.YtibkmhmeoelpdaaGreatMz
import Derived.Shelf.Abstract
namespace Go.Proofs.YtibkmhmeoelpdaaGreat
open Go.RowKit
open Geo (H3)
open Go.RowKit Go.Shelf

theorem map_four {zs : List Int} {q : Int} (h : mapB zs q = true) : ∃ a b c d : Int, zs = [a, b, c, d] ∧ (-20 ≤ a ∧ a ≤ 20) ∧ (-20 ≤ b ∧ b ≤ 20) ∧ (-20 ≤ c ∧ c ≤ 20) ∧ (-20 ≤ d ∧ d ≤ 20) ∧ 1 ≤ q ∧ q ≤ 20 := by
  unfold mapB at h
  simp only [Bool.and_eq_true, decide_eq_true_eq] at h
  obtain ⟨⟨h1, h2⟩, h3⟩ := h
  match zs, h1 with
  | [a, b, c, d], _ =>
    simp only [List.all_cons, List.all_nil, Bool.and_true, Bool.and_eq_true] at h3
    unfold inB at h2 h3
    simp only [Bool.and_eq_true, decide_eq_true_eq] at h2 h3
    exact ⟨a, b, c, d, rfl, h3.1, h3.2.1, h3.2.2.1, h3.2.2.2, h2.1, h2.2⟩
/-- an edge that is pulled back through a map -/
def zg (zs : List Int) (i : Nat) : Int := zs.getD i 0
def detI (zs : List Int) : Int := zg zs 0 * zg zs 3 - zg zs 1 * zg zs 2
theorem zat {w : World} {n : Nat} {am : Option Addr} {z0 z1 z2 z3 : Int} (hl : [z0, z1, z2, z3].length = n) (hA : IsAt w am [z0, z1, z2, z3]) : n = 4 ∧ ∃ g o, am = some ⟨g, o, none⟩ ∧ w.cell? ⟨g, o, none⟩ = some (.int .i64 z0) ∧ w.cell? ⟨g, o + 1, none⟩ = some (.int .i64 z1) ∧ w.cell? ⟨g, o + 2, none⟩ = some (.int .i64 z2) ∧ w.cell? ⟨g, o + 3, none⟩ = some (.int .i64 z3) := by
  obtain ⟨g, o, rfl, k0⟩ := hA 0 z0 rfl
  obtain ⟨g', o', e', k1⟩ := hA 1 z1 rfl
  obtain ⟨g'', o'', e'', k2⟩ := hA 2 z2 rfl
  obtain ⟨g3, o3, e3, k3⟩ := hA 3 z3 rfl
  simp only [Option.some.injEq, Addr.mk.injEq, and_true] at e' e'' e3
  obtain ⟨rfl, rfl⟩ := e'
  obtain ⟨rfl, rfl⟩ := e''
  obtain ⟨rfl, rfl⟩ := e3
  exact ⟨by simpa using hl.symm, g, o, rfl, k0, k1, k2, k3⟩
set_option maxRecDepth 100000 in
set_option maxHeartbeats 1600000 in
theorem impl_det (a : Option Addr) (n cap : Nat) (zs : List Int) (q : Int) (w : World) (hl : zs.length = n) (hm : mapB zs q = true) (hA : IsAt w a zs) :
    Calls Tryz.prog 115 #[.slice a n cap] w fun e w' => e = .returned (.int .i64 (detI zs)) ∧ Below w.heap.size w w' := by
  obtain ⟨z0, z1, z2, z3, rfl, ⟨a1, a2⟩, ⟨a3, a4⟩, ⟨a5, a6⟩, ⟨a7, a8⟩, _, _⟩ := map_four hm
  obtain ⟨rfl, g, o, rfl, k0, k1, k2, k3⟩ := zat hl hA
  have m0 := mul_in z0 z3 20 20 a1 a2 a7 a8
  have m1 := mul_in z1 z2 20 20 a3 a4 a5 a6
  have HD := Lib.hid (show detI [z0, z1, z2, z3] = z0 * z3 - z1 * z2 from rfl)
  generalize e0 : z0 * z3 = u0 at *
  generalize e1 : z1 * z2 = u1 at *
  have v0 : IntKind.i64.wrap u0 = u0 := IntWalk.i64_in _ (by omega)
  have v1 : IntKind.i64.wrap u1 = u1 := IntWalk.i64_in _ (by omega)
  have v2 : IntKind.i64.wrap (u0 - u1) = u0 - u1 := IntWalk.i64_in _ (by omega)
  clear hm hA hl
  go_enter Tryz.func115, Tryz.ntmps115
  go_wp2
  go_quiet (fail)
  go_wp2
  go_ret
  exact ⟨by rw [HD.out]; rfl, below_drew (Below.refl _ _) _⟩
end Go.Proofs.YtibkmhmeoelpdaaGreat
