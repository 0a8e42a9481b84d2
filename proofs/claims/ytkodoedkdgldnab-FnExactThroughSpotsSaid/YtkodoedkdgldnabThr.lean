/- The contract of the program's ThroughSpots over the translation. -/
import Derived.Test.YtkodoedkdgldnabHof
import Derived.Test.YtkodoedkdgldnabHlf
namespace Go.Proofs.Ytkodoedkdgldnab
open Go.RowKit

/-- what ThroughSpots answers -/
def thrH (a b c x y d : Int) : Value := if wholeS a b c = true ∧ wholeS x y d = true then ansH (y - b) (-(x - a)) ((y - b) * a - (x - a) * b) else zeroS
theorem thrH_ex (a b c x y d : Int) : ∃ X Y D : Int, ∃ B : Bool, thrH a b c x y d = .tuple #[.agg #[.int .i64 X, .int .i64 Y, .int .i64 D], .bool B] := by
  unfold thrH
  split
  · exact ansH_ex _ _ _
  · exact ⟨0, 0, 0, false, rfl⟩
theorem whole_in {a b c : Int} (h : wholeS a b c = true) : c = 1 ∧ -1000 ≤ a ∧ a ≤ 1000 ∧ -1000 ≤ b ∧ b ≤ 1000 := by
  unfold wholeS at h
  simp only [Bool.and_eq_true, beq_iff_eq] at h
  obtain ⟨h1, h2, h3, h4, h5, h6, _⟩ := (okS_iff _ _ _).1 h.1
  obtain ⟨_, rfl⟩ := h
  omega
theorem thr_in {a b x y : Int} (ha : -1000 ≤ a) (ha2 : a ≤ 1000) (hb : -1000 ≤ b) (hb2 : b ≤ 1000) (hx : -1000 ≤ x) (hx2 : x ≤ 1000) (hy : -1000 ≤ y) (hy2 : y ≤ 1000) : (-2000000 ≤ (y - b) * a ∧ (y - b) * a ≤ 2000000) ∧ (-2000000 ≤ (x - a) * b ∧ (x - a) * b ≤ 2000000) := by
  have m1 := mul_in (y - b) a 2000 1000 (by omega) (by omega) ha ha2
  have m2 := mul_in (x - a) b 2000 1000 (by omega) (by omega) hb hb2
  exact ⟨by omega, by omega⟩

set_option maxHeartbeats 3200000 in
theorem impl_thr (a b c x y d : Int) (w : World) (ha : -9223372036854775808 ≤ a) (ha2 : a ≤ 9223372036854775807) (hb : -9223372036854775808 ≤ b) (hb2 : b ≤ 9223372036854775807) (hc : -9223372036854775808 ≤ c) (hc2 : c ≤ 9223372036854775807) (hx : -9223372036854775808 ≤ x) (hx2 : x ≤ 9223372036854775807) (hy : -9223372036854775808 ≤ y) (hy2 : y ≤ 9223372036854775807) (hd : -9223372036854775808 ≤ d) (hd2 : d ≤ 9223372036854775807) :
    Calls Try.prog 6 #[.agg #[.int .i64 a, .int .i64 b, .int .i64 c], .agg #[.int .i64 x, .int .i64 y, .int .i64 d]] w fun e w' => e = .returned (thrH a b c x y d) ∧ Below w.heap.size w w' := by
  have HO := Lib.hid (fun W => impl_whole a b c W ha ha2 hb hb2 hc hc2)
  have HP := Lib.hid (fun W => impl_whole x y d W hx hx2 hy hy2 hd hd2)
  cases hk : wholeS a b c with
  | false =>
    rw [show thrH a b c x y d = zeroS from if_neg (by rw [hk]; simp)]
    unfold zeroS
    rw [hk] at HO
    clear hk
    go_enter Try.func6, Try.ntmps6
    go_wp2_with fail
    refine (HO.out _).mono ?_
    rintro e w1 ⟨rfl, bl1⟩
    obtain ⟨_, _, ⟨p0, p1, p2, g0, g1, g2⟩, hbw⟩ := sboxes3 bl1
    clear bl1 HO HP
    go_wp2_with fail
    refine bodyPost_ret (v := .tuple #[.agg #[.int .i64 0, .int .i64 0, .int .i64 0], .bool false]) (by simp [results, Try.results6, go_sem, p0, p1, p2]) rfl ⟨rfl, ?_⟩
    exact below_set3 _ _ _ hbw (by omega)
  | true =>
    cases hl : wholeS x y d with
    | false =>
      rw [show thrH a b c x y d = zeroS from if_neg (by rw [hl]; simp)]
      unfold zeroS
      rw [hk] at HO
      rw [hl] at HP
      clear hk hl
      go_enter Try.func6, Try.ntmps6
      go_wp2_with fail
      refine (HO.out _).mono ?_
      rintro e w1 ⟨rfl, bl1⟩
      obtain ⟨_, ⟨r0, r1, r2, _, _, _⟩, _, _⟩ := sboxes3 bl1
      go_wp2_with fail
      refine (HP.out _).mono ?_
      rintro e w2 ⟨rfl, bl2⟩
      obtain ⟨_, _, ⟨p0, p1, p2, g0, g1, g2⟩, hbw⟩ := sboxes3 (below_to bl1 bl2)
      clear bl1 bl2 HO HP r0 r1 r2
      go_wp2_with fail
      refine bodyPost_ret (v := .tuple #[.agg #[.int .i64 0, .int .i64 0, .int .i64 0], .bool false]) (by simp [results, Try.results6, go_sem, p0, p1, p2]) rfl ⟨rfl, ?_⟩
      exact below_set3 _ _ _ hbw (by omega)
    | true =>
      rw [show thrH a b c x y d = ansH (y - b) (-(x - a)) ((y - b) * a - (x - a) * b) from if_pos ⟨hk, hl⟩]
      obtain ⟨a1, a2, b1, b2⟩ := (whole_in hk).2
      obtain ⟨x1, x2, y1, y2⟩ := (whole_in hl).2
      obtain ⟨⟨m0, m1⟩, n0, n1⟩ := thr_in a1 a2 b1 b2 x1 x2 y1 y2
      have HS := Lib.hid (fun W => impl_hof (y - b) (-(x - a)) ((y - b) * a - (x - a) * b) W (by omega) (by omega) (by omega) (by omega) (by omega) (by omega))
      obtain ⟨X, Y, D, B, eA⟩ := ansH_ex (y - b) (-(x - a)) ((y - b) * a - (x - a) * b)
      rw [eA] at HS ⊢
      rw [hk] at HO
      rw [hl] at HP
      clear hk hl eA
      generalize e1 : (y - b) * a = P at *
      generalize e2 : (x - a) * b = Q at *
      go_enter Try.func6, Try.ntmps6
      go_wp2_with fail
      refine (HO.out _).mono ?_
      rintro e w1 ⟨rfl, bl1⟩
      obtain ⟨_, ⟨r0, r1, r2, _, _, _⟩, _, _⟩ := sboxes3 bl1
      go_wp2_with fail
      refine (HP.out _).mono ?_
      rintro e w2 ⟨rfl, bl2⟩
      clear r0 r1 r2
      obtain ⟨⟨q0, q1, q2, _, _, _⟩, ⟨r0, r1, r2, _, _, _⟩, H3, hbw⟩ := sboxes3 (below_to bl1 bl2)
      clear bl1 bl2 HO HP
      go_wp2_with fail
      go_quiet (fail)
      go_wp2_with fail
      refine (HS.out _).mono ?_
      rintro e w4 ⟨rfl, bl4⟩
      have bl5 := below_to (below_drew (Below.refl _ w2) _) bl4
      obtain ⟨p0, p1, p2, g0, g1, g2⟩ := has3_to bl5 H3
      have hfin := below_to hbw bl5
      clear bl4 bl5 HS H3 hbw q0 q1 q2 r0 r1 r2
      go_wp2_with fail
      refine bodyPost_ret (v := .tuple #[.agg #[.int .i64 X, .int .i64 Y, .int .i64 D], .bool B]) (by simp [results, Try.results6, go_sem, p0, p1, p2]) rfl ⟨rfl, ?_⟩
      exact below_set3 _ _ _ hfin (by omega)

end Go.Proofs.Ytkodoedkdgldnab
