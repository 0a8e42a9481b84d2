/- MapSpot of the program and of the model over the translation. -/
import Derived.Test.YtckfmgldgjnepabIz
namespace Go.Proofs.Ytckfmgldgjnepab
open Go.RowKit
open Geo (H3)

theorem map_four {zs : List Int} {q : Int} (h : mapB zs q = true) : ∃ a b c d : Int, zs = [a, b, c, d] ∧ (-20 ≤ a ∧ a ≤ 20) ∧ (-20 ≤ b ∧ b ≤ 20) ∧ (-20 ≤ c ∧ c ≤ 20) ∧ (-20 ≤ d ∧ d ≤ 20) ∧ 1 ≤ q ∧ q ≤ 20 := by
  unfold mapB at h
  simp only [Bool.and_eq_true, decide_eq_true_eq] at h
  obtain ⟨⟨h1, h2⟩, h3⟩ := h
  match zs, h1 with
  | [a, b, c, d], _ =>
    simp only [List.all_cons, List.all_nil, Bool.and_true, Bool.and_eq_true] at h3
    unfold inB at h2 h3
    simp only [Bool.and_eq_true, decide_eq_true_eq] at h2 h3
    exact ⟨a, b, c, d, rfl, h3.1, h3.2.1, h3.2.2.1, h3.2.2.2, h2.1, h2.2⟩
theorem seven7 {V X : World} {p0 p1 p2 p3 p4 p5 p6 : Addr} {a0 a1 a2 a3 a4 a5 a6 : Value} (h0 : V.cell? p0 = some a0) (h1 : V.cell? p1 = some a1) (h2 : V.cell? p2 = some a2) (h3 : V.cell? p3 = some a3) (h4 : V.cell? p4 = some a4) (h5 : V.cell? p5 = some a5) (h6 : V.cell? p6 = some a6) (hb : Below V.heap.size V X) :
    X.cell? p0 = some a0 ∧ X.cell? p1 = some a1 ∧ X.cell? p2 = some a2 ∧ X.cell? p3 = some a3 ∧ X.cell? p4 = some a4 ∧ X.cell? p5 = some a5 ∧ X.cell? p6 = some a6 :=
  ⟨cell_to h0 hb, cell_to h1 hb, cell_to h2 hb, cell_to h3 hb, cell_to h4 hb, cell_to h5 hb, cell_to h6 hb⟩
theorem seven_put {V X : World} {B b c i0 i1 i2 i3 j0 j1 j2 : Nat} {a0 a1 a2 a3 a4 a5 a6 u v z : Value} (hb : Below V.heap.size V X) (h0 : V.cell? ⟨b, i0, none⟩ = some a0) (h1 : V.cell? ⟨b, i1, none⟩ = some a1) (h2 : V.cell? ⟨b, i2, none⟩ = some a2) (h3 : V.cell? ⟨b, i3, none⟩ = some a3) (h4 : V.cell? ⟨c, j0, none⟩ = some a4) (h5 : V.cell? ⟨c, j1, none⟩ = some a5) (h6 : V.cell? ⟨c, j2, none⟩ = some a6) (n1 : B ≠ b) (n2 : B ≠ c) :
    (((X.setCell ⟨B, 0, none⟩ u).setCell ⟨B, 1, none⟩ v).setCell ⟨B, 2, none⟩ z).cell? ⟨b, i0, none⟩ = some a0 ∧ (((X.setCell ⟨B, 0, none⟩ u).setCell ⟨B, 1, none⟩ v).setCell ⟨B, 2, none⟩ z).cell? ⟨b, i1, none⟩ = some a1 ∧ (((X.setCell ⟨B, 0, none⟩ u).setCell ⟨B, 1, none⟩ v).setCell ⟨B, 2, none⟩ z).cell? ⟨b, i2, none⟩ = some a2 ∧ (((X.setCell ⟨B, 0, none⟩ u).setCell ⟨B, 1, none⟩ v).setCell ⟨B, 2, none⟩ z).cell? ⟨b, i3, none⟩ = some a3 ∧
    (((X.setCell ⟨B, 0, none⟩ u).setCell ⟨B, 1, none⟩ v).setCell ⟨B, 2, none⟩ z).cell? ⟨c, j0, none⟩ = some a4 ∧ (((X.setCell ⟨B, 0, none⟩ u).setCell ⟨B, 1, none⟩ v).setCell ⟨B, 2, none⟩ z).cell? ⟨c, j1, none⟩ = some a5 ∧ (((X.setCell ⟨B, 0, none⟩ u).setCell ⟨B, 1, none⟩ v).setCell ⟨B, 2, none⟩ z).cell? ⟨c, j2, none⟩ = some a6 := by
  have f : ∀ (q : Addr) (s : Value), B ≠ q.block → V.cell? q = some s → (((X.setCell ⟨B, 0, none⟩ u).setCell ⟨B, 1, none⟩ v).setCell ⟨B, 2, none⟩ z).cell? q = some s := fun q s hn h => by
    rw [World.cell?_setCell_far _ _ _ _ (by simpa using hn), World.cell?_setCell_far _ _ _ _ (by simpa using hn), World.cell?_setCell_far _ _ _ _ (by simpa using hn)]
    exact cell_to h hb
  exact ⟨f _ _ n1 h0, f _ _ n1 h1, f _ _ n1 h2, f _ _ n1 h3, f _ _ n2 h4, f _ _ n2 h5, f _ _ n2 h6⟩
/-- what MapSpot answers -/
def msV (x y d : Int) (zs : List Int) (q : Int) : Value := if okS x y d = true ∧ mapB zs q = true then ansS (zs.getD 0 0 * x + zs.getD 1 0 * y) (zs.getD 2 0 * x + zs.getD 3 0 * y) (q * d) else zeroS
set_option maxRecDepth 100000 in
set_option maxHeartbeats 3200000 in
theorem impl_ms (x y d : Int) (a : Option Addr) (n cap : Nat) (zs : List Int) (q : Int) (w : World) (h64 : In64 ⟨x, y, d⟩) (hl : zs.length = n) (hA : IsAt w a zs) :
    Calls Try.prog 27 #[.agg #[.int .i64 x, .int .i64 y, .int .i64 d], .slice a n cap, .int .i64 q] w fun e w' => e = .returned (msV x y d zs q) ∧ Below w.heap.size w w' := by
  have bV := below_bx2 (below_one w (.cells #[.int .i64 x, .int .i64 y, .int .i64 d] 47)) (.cells #[.int .i64 0, .int .i64 0, .int .i64 0] 47)
  have r0 := (tri_new w (.int .i64 x) (.int .i64 y) (.int .i64 d) 47).to (below_one _ (.cells #[.int .i64 0, .int .i64 0, .int .i64 0] 47))
  have T0 := has3_new (w.alloc (.cells #[.int .i64 x, .int .i64 y, .int .i64 d] 47)) (.int .i64 0) (.int .i64 0) (.int .i64 0) 47
  rw [show (w.alloc (.cells #[.int .i64 x, .int .i64 y, .int .i64 d] 47)).heap.size = w.heap.size + 1 by simp] at T0
  have HM := Lib.hid (fun V (h : Below w.heap.size w V) => impl_map a n cap zs q V hl (hA.below h))
  have HK := Lib.hid (fun V => impl_sok x y d V h64.1.1 h64.1.2 h64.2.1.1 h64.2.1.2 h64.2.2.1 h64.2.2.2)
  have HA := Lib.hid hA
  have HL := Lib.hid hl
  clear hl hA h64
  go_enter Try.func27, Try.ntmps27
  go_wp2_with fail
  generalize (w.alloc (.cells #[.int .i64 x, .int .i64 y, .int .i64 d] 47)).alloc (.cells #[.int .i64 0, .int .i64 0, .int .i64 0] 47) = V at *
  refine (HM.out _ bV).mono ?_
  rintro e wm ⟨rfl, hwm⟩
  subst hwm
  cases hm : mapB zs q with
  | false =>
    have HN := Lib.hid (show msV x y d zs q = zeroS by unfold msV; rw [if_neg (by rw [hm]; simp)])
    clear hm
    obtain ⟨t1, t2, t3, u1, u2, u3⟩ := T0
    go_wp2_with fail
    exact bodyPost_ret (v := zeroS) (by simp [results, Try.results27, go_sem, t1, t2, t3, zeroS]) rfl ⟨by rw [HN.out], ((bV.setCell (p := ⟨w.heap.size + 1, 0, none⟩) (by simp) _).setCell (p := ⟨w.heap.size + 1, 1, none⟩) (by simp) _).setCell (p := ⟨w.heap.size + 1, 2, none⟩) (by simp) _⟩
  | true =>
    have HMM := Lib.hid hm
    clear hm
    obtain ⟨c1, c2, c3⟩ := id r0
    simp only [Nat.zero_add] at c1 c2 c3
    go_wp2_with fail
    refine (HK.out _).mono ?_
    rintro e w2 ⟨rfl, bl2⟩
    have b2 := below_to bV bl2
    have r2 := r0.to bl2
    have T2 := has3_to bl2 T0
    clear bV r0 T0 bl2 HK HM c1 c2 c3
    cases hk : okS x y d with
    | false =>
      have HN := Lib.hid (show msV x y d zs q = zeroS by unfold msV; rw [if_neg (by rw [hk]; simp)])
      clear hk
      obtain ⟨t1, t2, t3, u1, u2, u3⟩ := T2
      go_wp2_with fail
      exact bodyPost_ret (v := zeroS) (by simp [results, Try.results27, go_sem, t1, t2, t3, zeroS]) rfl ⟨by rw [HN.out], ((b2.setCell (p := ⟨w.heap.size + 1, 0, none⟩) (by simp) _).setCell (p := ⟨w.heap.size + 1, 1, none⟩) (by simp) _).setCell (p := ⟨w.heap.size + 1, 2, none⟩) (by simp) _⟩
    | true =>
      obtain ⟨z0, z1, z2, z3, rfl, ⟨a1, a2⟩, ⟨a3, a4⟩, ⟨a5, a6⟩, ⟨a7, a8⟩, q1, q2⟩ := map_four HMM.out
      have HN := Lib.hid (show msV x y d [z0, z1, z2, z3] q = ansS (z0 * x + z1 * y) (z2 * x + z3 * y) (q * d) by unfold msV; rw [if_pos ⟨hk, HMM.out⟩]; rfl)
      obtain ⟨d1, d2, x1, x2, y1, y2, _⟩ := (okS_iff _ _ _).1 hk
      have m0 := mul_in z0 x 20 5000000000000 a1 a2 (by omega) (by omega)
      have m1 := mul_in z1 y 20 5000000000000 a3 a4 (by omega) (by omega)
      have m2 := mul_in z2 x 20 5000000000000 a5 a6 (by omega) (by omega)
      have m3 := mul_in z3 y 20 5000000000000 a7 a8 (by omega) (by omega)
      have m4 := mul_in q d 20 5000000000 (by omega) q2 (by omega) d2
      have HS := Lib.hid (fun W => impl_sof (z0 * x + z1 * y) (z2 * x + z3 * y) (q * d) W (by omega) (by omega) (by omega) (by omega) (by omega) (by omega))
      obtain ⟨X, Y, D, B, hans⟩ := ansS_ex (z0 * x + z1 * y) (z2 * x + z3 * y) (q * d)
      rw [hans] at HS HN
      have hl4 := HL.out
      simp only [List.length_cons, List.length_nil] at hl4
      obtain rfl : n = 4 := by omega
      obtain ⟨g, o, rfl, k0⟩ := HA.out 0 z0 rfl
      obtain ⟨g', o', e', k1⟩ := HA.out 1 z1 rfl
      obtain ⟨g'', o'', e'', k2⟩ := HA.out 2 z2 rfl
      obtain ⟨g3, o3, e3, k3⟩ := HA.out 3 z3 rfl
      simp only [Option.some.injEq, Addr.mk.injEq, and_true] at e' e'' e3
      obtain ⟨rfl, rfl⟩ := e'
      obtain ⟨rfl, rfl⟩ := e''
      obtain ⟨rfl, rfl⟩ := e3
      have lg := block_lt_of_cell k0
      simp only at lg
      replace k0 := cell_to k0 b2
      replace k1 := cell_to k1 b2
      replace k2 := cell_to k2 b2
      replace k3 := cell_to k3 b2
      rw [Nat.add_zero] at k0
      have n1 : w.heap.size + 1 ≠ g := by omega
      have n2 : w.heap.size + 1 ≠ w.heap.size := by omega
      generalize e0 : z0 * x = u0 at *
      generalize e1 : z1 * y = u1 at *
      generalize e2 : z2 * x = u2 at *
      generalize e3 : z3 * y = u3 at *
      generalize e4 : q * d = u4 at *
      have v0 : IntKind.i64.wrap u0 = u0 := IntWalk.i64_in _ (by omega)
      have v1 : IntKind.i64.wrap u1 = u1 := IntWalk.i64_in _ (by omega)
      have v2 : IntKind.i64.wrap u2 = u2 := IntWalk.i64_in _ (by omega)
      have v3 : IntKind.i64.wrap u3 = u3 := IntWalk.i64_in _ (by omega)
      have v4 : IntKind.i64.wrap u4 = u4 := IntWalk.i64_in _ (by omega)
      have v5 : IntKind.i64.wrap (u0 + u1) = u0 + u1 := IntWalk.i64_in _ (by omega)
      have v6 : IntKind.i64.wrap (u2 + u3) = u2 + u3 := IntWalk.i64_in _ (by omega)
      obtain ⟨c1, c2, c3⟩ := id r2
      simp only [Nat.zero_add] at c1 c2 c3
      obtain ⟨t1, t2, t3, f1, f2, f3⟩ := id T2
      clear hans hk HL HA HMM lg
      go_wp2_with fail
      go_region_held3 (fun w' => w'.cell? ⟨g, o, none⟩ = some (.int .i64 z0) ∧ w'.cell? ⟨g, o + 1, none⟩ = some (.int .i64 z1) ∧ w'.cell? ⟨g, o + 2, none⟩ = some (.int .i64 z2) ∧ w'.cell? ⟨g, o + 3, none⟩ = some (.int .i64 z3) ∧ w'.cell? ⟨w.heap.size, 0, none⟩ = some (.int .i64 x) ∧ w'.cell? ⟨w.heap.size, 1, none⟩ = some (.int .i64 y) ∧ w'.cell? ⟨w.heap.size, 2, none⟩ = some (.int .i64 d))
        (first | (with_reducible refine seven7 k0 k1 k2 k3 c1 c2 c3 ?_; (repeat (first | exact Below.refl _ _ | refine below_drw ?_ | refine below_to ?_ (by assumption))); done) | (with_reducible refine seven_put ?_ k0 k1 k2 k3 c1 c2 c3 n1 n2; repeat (first | exact Below.refl _ _ | refine below_drw ?_ | refine below_to ?_ (by assumption))))
        ((go_at_call 67; (with_reducible refine (HS.out _).mono ?_); rintro e w6 ⟨rfl, bl6⟩; obtain ⟨s1, s2, s3, n4, n5, n6⟩ := has3_to (below_to (below_drw (Below.refl _ _)) bl6) T2))
      all_goals
        have b6 := below_to b2 (below_to (below_drw (Below.refl _ _)) bl6)
        go_wp2_with fail
        exact bodyPost_ret (v := .tuple #[.agg #[.int .i64 X, .int .i64 Y, .int .i64 D], .bool B]) (by simp [results, Try.results27, go_sem, s1, s2, s3]) rfl ⟨by rw [HN.out], ((b6.setCell (p := ⟨w.heap.size + 1, 0, none⟩) (by simp) _).setCell (p := ⟨w.heap.size + 1, 1, none⟩) (by simp) _).setCell (p := ⟨w.heap.size + 1, 2, none⟩) (by simp) _⟩
set_option maxRecDepth 100000 in
set_option maxHeartbeats 3200000 in
theorem spec_ms (x y d : Int) (a : Option Addr) (n cap : Nat) (zs : List Int) (q : Int) (w : World) (h64 : In64 ⟨x, y, d⟩) (hl : zs.length = n) (hA : IsAt w a zs) :
    Calls Try.prog 25 #[.agg #[.int .i64 x, .int .i64 y, .int .i64 d], .slice a n cap, .int .i64 q] w fun e w' => e = .returned (msV x y d zs q) ∧ Below w.heap.size w w' := by
  have bV := below_bx2 (below_one w (.cells #[.int .i64 x, .int .i64 y, .int .i64 d] 47)) (.cells #[.int .i64 0, .int .i64 0, .int .i64 0] 47)
  have r0 := (tri_new w (.int .i64 x) (.int .i64 y) (.int .i64 d) 47).to (below_one _ (.cells #[.int .i64 0, .int .i64 0, .int .i64 0] 47))
  have T0 := has3_new (w.alloc (.cells #[.int .i64 x, .int .i64 y, .int .i64 d] 47)) (.int .i64 0) (.int .i64 0) (.int .i64 0) 47
  rw [show (w.alloc (.cells #[.int .i64 x, .int .i64 y, .int .i64 d] 47)).heap.size = w.heap.size + 1 by simp] at T0
  have HM := Lib.hid (fun V (h : Below w.heap.size w V) => spec_map a n cap zs q V hl (hA.below h))
  have HK := Lib.hid (fun V => spec_sok x y d V h64.1.1 h64.1.2 h64.2.1.1 h64.2.1.2 h64.2.2.1 h64.2.2.2)
  have HA := Lib.hid hA
  have HL := Lib.hid hl
  clear hl hA h64
  go_enter Try.func25, Try.ntmps25
  go_wp2_with fail
  generalize (w.alloc (.cells #[.int .i64 x, .int .i64 y, .int .i64 d] 47)).alloc (.cells #[.int .i64 0, .int .i64 0, .int .i64 0] 47) = V at *
  refine (HK.out _).mono ?_
  rintro e w1 ⟨rfl, bl1⟩
  have b1 := below_to bV bl1
  have r1 := r0.to bl1
  have T1 := has3_to bl1 T0
  clear bV r0 T0 bl1 HK
  cases hk : okS x y d with
  | false =>
    have HN := Lib.hid (show msV x y d zs q = zeroS by unfold msV; rw [if_neg (by rw [hk]; simp)])
    clear hk
    obtain ⟨t1, t2, t3, u1, u2, u3⟩ := T1
    go_wp2_with fail
    exact bodyPost_ret (v := zeroS) (by simp [results, Try.results25, go_sem, t1, t2, t3, zeroS]) rfl ⟨by rw [HN.out], ((b1.setCell (p := ⟨w.heap.size + 1, 0, none⟩) (by simp) _).setCell (p := ⟨w.heap.size + 1, 1, none⟩) (by simp) _).setCell (p := ⟨w.heap.size + 1, 2, none⟩) (by simp) _⟩
  | true =>
    have HKK := Lib.hid hk
    clear hk
    go_wp2_with fail
    refine (HM.out _ b1).mono ?_
    rintro e w2 ⟨rfl, hw2⟩
    subst hw2
    have b2 := b1
    have r2 := r1
    have T2 := T1
    clear b1 r1 T1 HM
    cases hm : mapB zs q with
    | false =>
      have HN := Lib.hid (show msV x y d zs q = zeroS by unfold msV; rw [if_neg (by rw [hm]; simp)])
      clear hm
      obtain ⟨t1, t2, t3, u1, u2, u3⟩ := T2
      go_wp2_with fail
      exact bodyPost_ret (v := zeroS) (by simp [results, Try.results25, go_sem, t1, t2, t3, zeroS]) rfl ⟨by rw [HN.out], ((b2.setCell (p := ⟨w.heap.size + 1, 0, none⟩) (by simp) _).setCell (p := ⟨w.heap.size + 1, 1, none⟩) (by simp) _).setCell (p := ⟨w.heap.size + 1, 2, none⟩) (by simp) _⟩
    | true =>
      have HMM := Lib.hid hm
      clear hm
      have hk := HKK.out
      obtain ⟨z0, z1, z2, z3, rfl, ⟨a1, a2⟩, ⟨a3, a4⟩, ⟨a5, a6⟩, ⟨a7, a8⟩, q1, q2⟩ := map_four HMM.out
      have HN := Lib.hid (show msV x y d [z0, z1, z2, z3] q = ansS (z0 * x + z1 * y) (z2 * x + z3 * y) (q * d) by unfold msV; rw [if_pos ⟨hk, HMM.out⟩]; rfl)
      obtain ⟨d1, d2, x1, x2, y1, y2, _⟩ := (okS_iff _ _ _).1 hk
      have m0 := mul_in z0 x 20 5000000000000 a1 a2 (by omega) (by omega)
      have m1 := mul_in z1 y 20 5000000000000 a3 a4 (by omega) (by omega)
      have m2 := mul_in z2 x 20 5000000000000 a5 a6 (by omega) (by omega)
      have m3 := mul_in z3 y 20 5000000000000 a7 a8 (by omega) (by omega)
      have m4 := mul_in q d 20 5000000000 (by omega) q2 (by omega) d2
      have HS := Lib.hid (fun W => spec_sof (z0 * x + z1 * y) (z2 * x + z3 * y) (q * d) W (by omega) (by omega) (by omega) (by omega) (by omega) (by omega))
      obtain ⟨X, Y, D, B, hans⟩ := ansS_ex (z0 * x + z1 * y) (z2 * x + z3 * y) (q * d)
      rw [hans] at HS HN
      have hl4 := HL.out
      simp only [List.length_cons, List.length_nil] at hl4
      obtain rfl : n = 4 := by omega
      obtain ⟨g, o, rfl, k0⟩ := HA.out 0 z0 rfl
      obtain ⟨g', o', e', k1⟩ := HA.out 1 z1 rfl
      obtain ⟨g'', o'', e'', k2⟩ := HA.out 2 z2 rfl
      obtain ⟨g3, o3, e3, k3⟩ := HA.out 3 z3 rfl
      simp only [Option.some.injEq, Addr.mk.injEq, and_true] at e' e'' e3
      obtain ⟨rfl, rfl⟩ := e'
      obtain ⟨rfl, rfl⟩ := e''
      obtain ⟨rfl, rfl⟩ := e3
      have lg := block_lt_of_cell k0
      simp only at lg
      replace k0 := cell_to k0 b2
      replace k1 := cell_to k1 b2
      replace k2 := cell_to k2 b2
      replace k3 := cell_to k3 b2
      rw [Nat.add_zero] at k0
      have n1 : w.heap.size + 1 ≠ g := by omega
      have n2 : w.heap.size + 1 ≠ w.heap.size := by omega
      generalize e0 : z0 * x = u0 at *
      generalize e1 : z1 * y = u1 at *
      generalize e2 : z2 * x = u2 at *
      generalize e3 : z3 * y = u3 at *
      generalize e4 : q * d = u4 at *
      have v0 : IntKind.i64.wrap u0 = u0 := IntWalk.i64_in _ (by omega)
      have v1 : IntKind.i64.wrap u1 = u1 := IntWalk.i64_in _ (by omega)
      have v2 : IntKind.i64.wrap u2 = u2 := IntWalk.i64_in _ (by omega)
      have v3 : IntKind.i64.wrap u3 = u3 := IntWalk.i64_in _ (by omega)
      have v4 : IntKind.i64.wrap u4 = u4 := IntWalk.i64_in _ (by omega)
      have v5 : IntKind.i64.wrap (u0 + u1) = u0 + u1 := IntWalk.i64_in _ (by omega)
      have v6 : IntKind.i64.wrap (u2 + u3) = u2 + u3 := IntWalk.i64_in _ (by omega)
      obtain ⟨c1, c2, c3⟩ := id r2
      simp only [Nat.zero_add] at c1 c2 c3
      obtain ⟨t1, t2, t3, f1, f2, f3⟩ := id T2
      clear hans hk HL HA HMM lg
      go_wp2_with fail
      go_region_held3 (fun w' => w'.cell? ⟨g, o, none⟩ = some (.int .i64 z0) ∧ w'.cell? ⟨g, o + 1, none⟩ = some (.int .i64 z1) ∧ w'.cell? ⟨g, o + 2, none⟩ = some (.int .i64 z2) ∧ w'.cell? ⟨g, o + 3, none⟩ = some (.int .i64 z3) ∧ w'.cell? ⟨w.heap.size, 0, none⟩ = some (.int .i64 x) ∧ w'.cell? ⟨w.heap.size, 1, none⟩ = some (.int .i64 y) ∧ w'.cell? ⟨w.heap.size, 2, none⟩ = some (.int .i64 d))
        (first | (with_reducible refine seven7 k0 k1 k2 k3 c1 c2 c3 ?_; (repeat (first | exact Below.refl _ _ | refine below_drw ?_ | refine below_to ?_ (by assumption))); done) | (with_reducible refine seven_put ?_ k0 k1 k2 k3 c1 c2 c3 n1 n2; repeat (first | exact Below.refl _ _ | refine below_drw ?_ | refine below_to ?_ (by assumption))))
        ((go_at_call 65; (with_reducible refine (HS.out _).mono ?_); rintro e w6 ⟨rfl, bl6⟩; obtain ⟨s1, s2, s3, n4, n5, n6⟩ := has3_to (below_to (below_drw (Below.refl _ _)) bl6) T2))
      all_goals
        have b6 := below_to b2 (below_to (below_drw (Below.refl _ _)) bl6)
        go_wp2_with fail
        exact bodyPost_ret (v := .tuple #[.agg #[.int .i64 X, .int .i64 Y, .int .i64 D], .bool B]) (by simp [results, Try.results25, go_sem, s1, s2, s3]) rfl ⟨by rw [HN.out], ((b6.setCell (p := ⟨w.heap.size + 1, 0, none⟩) (by simp) _).setCell (p := ⟨w.heap.size + 1, 1, none⟩) (by simp) _).setCell (p := ⟨w.heap.size + 1, 2, none⟩) (by simp) _⟩
end Go.Proofs.Ytckfmgldgjnepab
