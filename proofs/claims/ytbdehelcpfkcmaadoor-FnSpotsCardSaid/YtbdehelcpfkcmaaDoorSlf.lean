/- The contracts at two small spots, for the law FnSpots. -/
import Derived.Test.YtbdehelcpfkcmaaDoorMks
import Derived.Test.YtbdehelcpfkcmaaDoorIps2
import Derived.Test.YtbdehelcpfkcmaaDoorHll
namespace Go.Proofs.YtbdehelcpfkcmaaDoor
open Go.RowKit

/-- a spot and true -/
def sp1 (X Y D : Int) : Value := .tuple #[.agg #[.int .i64 X, .int .i64 Y, .int .i64 D], .bool true]
theorem fmtS_len {x y d : Int} (h : okS x y d = true) : (fmtS x y d).length ≤ 87 := by
  obtain ⟨h1, h2, h3, h4, h5, h6, _⟩ := (okS_iff _ _ _).1 h
  obtain ⟨r1, r2, r3, r4⟩ := red_in (n := x) h1 h2 (by omega) (by omega)
  obtain ⟨t1, t2, t3, t4⟩ := red_in (n := y) h1 h2 (by omega) (by omega)
  have l1 := fmtR_len (sgnR x d) (botR x d) (by omega) (by omega) (by omega) (by omega)
  have l2 := fmtR_len (sgnR y d) (botR y d) (by omega) (by omega) (by omega) (by omega)
  rw [fmtS_yes h]
  simp; omega
theorem shift_ok {a b c k l : Int} (h : okS a b c = true) (k0 : -2000 ≤ k) (k1 : k ≤ 2000) (l0 : -2000 ≤ l) (l1 : l ≤ 2000) (h2 : okS (a + k * c) (b + l * c) c = true) (W : World) :
    Calls Tryd.prog 8 #[.agg #[.int .i64 a, .int .i64 b, .int .i64 c], .int .i64 k, .int .i64 l] W fun e w' => e = .returned (sp1 (a + k * c) (b + l * c) c) ∧ Below W.heap.size W w' := by
  obtain ⟨h1, _, h3, h4, h5, h6, _⟩ := (okS_iff _ _ _).1 h
  have := impl_shift a b c k l W (by omega) (by omega) (by omega) (by omega) (by omega) (by omega) (by omega) (by omega) (by omega) (by omega)
  rw [show shiftS a b c k l = ansS (a + k * c) (b + l * c) c from if_pos ⟨h, k0, k1, l0, l1⟩, ans_low h2] at this
  exact this
theorem law_calls {a b c x y d k : Int} (h : SmallS a b c) (h' : SmallS x y d) (k0 : -50 ≤ k) (k1 : k ≤ 49) :
    ∃ X1 Y1 X Y D : Int, ∃ Z : ByteArray,
      (∀ W, Calls Tryd.prog 8 #[.agg #[.int .i64 a, .int .i64 b, .int .i64 c], .int .i64 k, .int .i64 (-k)] W fun e w' => e = .returned (sp1 X1 Y1 c) ∧ Below W.heap.size W w') ∧
      (∀ W, Calls Tryd.prog 8 #[.agg #[.int .i64 X1, .int .i64 Y1, .int .i64 c], .int .i64 (-k), .int .i64 k] W fun e w' => e = .returned (sp1 a b c) ∧ Below W.heap.size W w') ∧
      (∀ W, Calls Tryd.prog 9 #[.agg #[.int .i64 a, .int .i64 b, .int .i64 c], .agg #[.int .i64 x, .int .i64 y, .int .i64 d]] W fun e w' => e = .returned (sp1 X Y D) ∧ Below W.heap.size W w') ∧
      (∀ W, Calls Tryd.prog 9 #[.agg #[.int .i64 x, .int .i64 y, .int .i64 d], .agg #[.int .i64 a, .int .i64 b, .int .i64 c]] W fun e w' => e = .returned (sp1 X Y D) ∧ Below W.heap.size W w') ∧
      (∀ W, Vars W → Calls Tryd.prog 11 #[.agg #[.int .i64 a, .int .i64 b, .int .i64 c]] W fun e w' => e = .returned (.string Z) ∧ Below W.heap.size W w') ∧
      (∀ W, Vars W → Calls Tryd.prog 10 #[.string Z] W fun e w' => e = .returned (sp1 a b c) ∧ Below W.heap.size W w') ∧
      (∀ W, Calls Tryd.prog 12 #[.int .i64 (5 * a), .int .i64 (5 * b), .int .i64 (5 * c)] W fun e w' => e = .returned (sp1 a b c) ∧ Below W.heap.size W w') ∧
      (∀ W, Calls Tryd.prog 13 #[.agg #[.int .i64 a, .int .i64 b, .int .i64 c], .agg #[.int .i64 a, .int .i64 b, .int .i64 c]] W fun e w' => e = .returned (.bool true) ∧ Below W.heap.size W w') ∧
      (∀ W, Calls Tryd.prog 14 #[.agg #[.int .i64 X, .int .i64 Y, .int .i64 D]] W fun e w' => e = .returned (.bool true) ∧ Below W.heap.size W w') ∧
      1 ≤ D ∧ D ≤ 200 ∧ -200000 ≤ X ∧ X ≤ 200000 ∧ -200000 ≤ Y ∧ Y ≤ 200000 ∧ 2 * X * c * d = (a * d + x * c) * D ∧ 2 * Y * c * d = (b * d + y * c) * D := by
  obtain ⟨X, Y, D, hA, hk, D0, D1, X0, X1, Y0, Y1, eX, eY⟩ := half_small h h'
  obtain ⟨s1, s2, s3, s4, s5⟩ := shift_small h (k := k) (l := -k) (by omega) (by omega) (by omega) (by omega)
  have h5 := five_small h
  obtain ⟨hok, a0, a1, b0, b1, c0, c1⟩ := id h
  obtain ⟨hok', x0, x1, y0, y1, d0, d1⟩ := id h'
  refine ⟨a + k * c, b + -k * c, X, Y, D, str (fmtS a b c), ?_, ?_, ?_, ?_, ?_, ?_, ?_, ?_, ?_, D0, D1, X0, X1, Y0, Y1, eX, eY⟩
  · intro W
    exact shift_ok hok (by omega) (by omega) (by omega) (by omega) s1 W
  · intro W
    have e1 : a + k * c + -k * c = a := by rw [Int.neg_mul]; omega
    have e2 : b + -k * c + k * c = b := by rw [Int.neg_mul]; omega
    have := shift_ok (a := a + k * c) (b := b + -k * c) (k := -k) (l := k) s1 (by omega) (by omega) (by omega) (by omega) (by rw [e1, e2]; exact hok) W
    rwa [e1, e2] at this
  · intro W
    have := impl_half a b c x y d W (by omega) (by omega) (by omega) (by omega) (by omega) (by omega) (by omega) (by omega) (by omega) (by omega) (by omega) (by omega)
    rw [show halfS a b c x y d = _ from if_pos ⟨hok, hok', by omega, by omega⟩, hA] at this
    exact this
  · intro W
    have := impl_half x y d a b c W (by omega) (by omega) (by omega) (by omega) (by omega) (by omega) (by omega) (by omega) (by omega) (by omega) (by omega) (by omega)
    rw [show halfS x y d a b c = _ from if_pos ⟨hok', hok, by omega, by omega⟩, Int.add_comm (x * c), Int.add_comm (y * c), show 2 * d * c = 2 * c * d by rw [Int.mul_assoc, Int.mul_comm d c, ← Int.mul_assoc], hA] at this
    exact this
  · intro W hv
    exact impl_sf a b c W (by omega) (by omega) (by omega) (by omega) (by omega) (by omega) hv.1
  · intro W hv
    obtain ⟨b1', o1, o2⟩ := back_spot hok
    have hlen := fmtS_len hok
    have := impl_ps_yes (str (fmtS a b c)) (fmtR (sgnR a c) (botR a c)) (fmtR (sgnR b c) (botR b c)) (sgnR a c) (botR a c) (sgnR b c) (botR b c) true true W (by rw [str_size]; omega) (by rw [str_data, fmtS_yes hok]) (no44_rat _ _) (.inl ⟨rfl, o1, rfl⟩) (.inl ⟨rfl, o2, rfl⟩) hv
    rw [show twoS (sgnR a c) (botR a c) true (sgnR b c) (botR b c) true = _ from if_pos ⟨rfl, rfl⟩, b1'] at this
    exact this
  · intro W
    have := impl_sof (5 * a) (5 * b) (5 * c) W (by omega) (by omega) (by omega) (by omega) (by omega) (by omega)
    rw [h5] at this
    exact this
  · intro W
    have := impl_same a b c a b c W
    rw [show sameS a b c a b c = true by unfold sameS; simp] at this
    exact this
  · intro W
    obtain ⟨q1, q2, q3, q4, q5, q6, _⟩ := (okS_iff _ _ _).1 hk
    have := impl_sok X Y D W (by omega) (by omega) (by omega) (by omega) (by omega) (by omega)
    rw [hk] at this
    exact this
end Go.Proofs.YtbdehelcpfkcmaaDoor
