/- The contracts of both ShiftSpot and HalfWay functions over the translation. -/
import Derived.Test.YtkodoedkdgldnaaSof2
namespace Go.Proofs.Ytkodoedkdgldnaa
open Go.RowKit

theorem ansS_ex (x y d : Int) : ∃ X Y D : Int, ∃ B : Bool, ansS x y d = .tuple #[.agg #[.int .i64 X, .int .i64 Y, .int .i64 D], .bool B] := ⟨_, _, _, _, rfl⟩
/-- what ShiftSpot answers -/
def shiftS (x y d a b : Int) : Value := if okS x y d = true ∧ -2000 ≤ a ∧ a ≤ 2000 ∧ -2000 ≤ b ∧ b ≤ 2000 then ansS (x + a * d) (y + b * d) d else zeroS
theorem mul_in (a d A D : Int) (ha : -A ≤ a) (ha2 : a ≤ A) (hd : -D ≤ d) (hd2 : d ≤ D) : -(A * D) ≤ a * d ∧ a * d ≤ A * D := by
  have h : (a * d).natAbs ≤ (A * D).natAbs := by
    rw [Int.natAbs_mul, Int.natAbs_mul]
    exact Nat.mul_le_mul (by omega) (by omega)
  have h2 : 0 ≤ A * D := Int.mul_nonneg (by omega) (by omega)
  omega
theorem shift_in {x d a : Int} (h1 : 1 ≤ d) (h2 : d ≤ 5000000000) (h3 : -(1000 * d) ≤ x) (h4 : x ≤ 1000 * d) (ha : -2000 ≤ a) (ha2 : a ≤ 2000) : -10000000000000 ≤ a * d ∧ a * d ≤ 10000000000000 ∧ -15000000000000 ≤ x + a * d ∧ x + a * d ≤ 15000000000000 := by
  have := mul_in a d 2000 5000000000 ha ha2 (by omega) h2
  omega
/-- moved, a valid spot is in lowest terms -/
theorem moved {x y d a b : Int} (h : okS x y d = true) : ansS (x + a * d) (y + b * d) d = .tuple #[.agg #[.int .i64 (kp (okS (x + a * d) (y + b * d) d) (x + a * d)), .int .i64 (kp (okS (x + a * d) (y + b * d) d) (y + b * d)), .int .i64 (kp (okS (x + a * d) (y + b * d) d) d)], .bool (okS (x + a * d) (y + b * d) d)] := by
  obtain ⟨h1, _, _, _, _, _, h7⟩ := (okS_iff _ _ _).1 h
  have e := gS_move x y d a b h7
  exact ansS_if (g := 1) (by rw [e]; rfl) h1 (Int.tdiv_one _) (Int.tdiv_one _) (Int.tdiv_one _)
theorem sboxes {w w1 : World} {a b c x y d : Value} {T U : TypeId} (hb : Below ((w.alloc (.cells #[a, b, c] T)).alloc (.cells #[x, y, d] U)).heap.size ((w.alloc (.cells #[a, b, c] T)).alloc (.cells #[x, y, d] U)) w1) :
    Has3 w1 w.heap.size a b c ∧ Has3 w1 (w.heap.size + 1) x y d ∧ Below w.heap.size w w1 := boxes3 (k := 0) hb

set_option maxHeartbeats 3200000 in
theorem impl_shift (x y d a b : Int) (w : World) (hx : -9223372036854775808 ≤ x) (hx2 : x ≤ 9223372036854775807) (hy : -9223372036854775808 ≤ y) (hy2 : y ≤ 9223372036854775807) (hd : -9223372036854775808 ≤ d) (hd2 : d ≤ 9223372036854775807) (ha : -9223372036854775808 ≤ a) (ha2 : a ≤ 9223372036854775807) (hb : -9223372036854775808 ≤ b) (hb2 : b ≤ 9223372036854775807) :
    Calls Try.prog 25 #[.agg #[.int .i64 x, .int .i64 y, .int .i64 d], .int .i64 a, .int .i64 b] w fun e w' => e = .returned (shiftS x y d a b) ∧ Below w.heap.size w w' := by
  have HO := Lib.hid (fun W => impl_sok x y d W hx hx2 hy hy2 hd hd2)
  cases hk : okS x y d with
  | false =>
    rw [show shiftS x y d a b = zeroS by unfold shiftS; rw [if_neg (by rw [hk]; simp)]]
    unfold zeroS
    rw [hk] at HO
    clear hk
    go_enter Try.func25, Try.ntmps25
    go_wp2_with fail
    refine (HO.out _).mono ?_
    rintro e w1 ⟨rfl, bl1⟩
    obtain ⟨_, ⟨p0, p1, p2, f0, f1, f2⟩, hbw⟩ := sboxes bl1
    clear bl1
    go_wp2_with fail
    refine bodyPost_ret (v := .tuple #[.agg #[.int .i64 0, .int .i64 0, .int .i64 0], .bool false]) (by simp [results, Try.results25, go_sem, p0, p1, p2]) rfl ⟨rfl, ?_⟩
    exact below_set3 _ _ _ hbw (by simp)
  | true =>
    obtain ⟨h1, h2, h3, h4, h5, h6, _⟩ := (okS_iff _ _ _).1 hk
    by_cases ka : -2000 ≤ a ∧ a ≤ 2000
    · by_cases kb : -2000 ≤ b ∧ b ≤ 2000
      · rw [show shiftS x y d a b = ansS (x + a * d) (y + b * d) d by unfold shiftS; rw [if_pos ⟨hk, ka.1, ka.2, kb.1, kb.2⟩]]
        obtain ⟨ka, ka2⟩ := ka
        obtain ⟨kb, kb2⟩ := kb
        have HA := Lib.hid (inB_yes ka ka2)
        have HB := Lib.hid (inB_yes kb kb2)
        obtain ⟨m0, m1, m2, m3⟩ := shift_in h1 h2 h3 h4 ka ka2
        obtain ⟨n0, n1, n2, n3⟩ := shift_in h1 h2 h5 h6 kb kb2
        rw [hk] at HO
        have HS := Lib.hid (fun W => if_ok (x + a * d) (y + b * d) d W (by omega) (by omega) (by omega) (by omega) hd hd2)
        rw [← moved hk] at HS
        obtain ⟨X, Y, D, B, eA⟩ := ansS_ex (x + a * d) (y + b * d) d
        rw [eA] at HS ⊢
        clear eA hk
        generalize ea : a * d = A at *
        generalize eb : b * d = C at *
        go_enter Try.func25, Try.ntmps25
        go_wp2_with fail
        refine (HO.out _).mono ?_
        rintro e w1 ⟨rfl, bl1⟩
        obtain ⟨⟨q0, q1, q2, _, _, _⟩, ⟨p0, p1, p2, f0, f1, f2⟩, hbw⟩ := sboxes bl1
        clear bl1
        go_wp2_with fail
        refine (in_impl_is _ _ _ _ true HA.out).mono ?_
        rintro e w2 ⟨rfl, rfl⟩
        go_wp2_with fail
        refine (in_impl_is _ _ _ _ true HB.out).mono ?_
        rintro e w2 ⟨rfl, rfl⟩
        go_wp2_with fail
        refine (HS.out _).mono ?_
        rintro e w3 ⟨rfl, bl3⟩
        obtain ⟨r0, r1, r2, e0, e1, e2⟩ := has3_to bl3 ⟨p0, p1, p2, f0, f1, f2⟩
        clear p0 p1 p2 f0 f1 f2 q0 q1 q2
        go_wp2_with fail
        refine bodyPost_ret (v := .tuple #[.agg #[.int .i64 X, .int .i64 Y, .int .i64 D], .bool B]) (by simp [results, Try.results25, go_sem, r0, r1, r2]) rfl ⟨rfl, ?_⟩
        exact below_set3 _ _ _ (below_to hbw bl3) (by simp)
      · rw [show shiftS x y d a b = zeroS by unfold shiftS; rw [if_neg (by omega)]]
        unfold zeroS
        rw [hk] at HO
        obtain ⟨ka, ka2⟩ := ka
        have HA := Lib.hid (inB_yes ka ka2)
        have HB := Lib.hid (inB_no (n := b) (lo := -2000) (hi := 2000) (by omega))
        clear hk kb
        go_enter Try.func25, Try.ntmps25
        go_wp2_with fail
        refine (HO.out _).mono ?_
        rintro e w1 ⟨rfl, bl1⟩
        obtain ⟨_, ⟨p0, p1, p2, f0, f1, f2⟩, hbw⟩ := sboxes bl1
        clear bl1
        go_wp2_with fail
        refine (in_impl_is _ _ _ _ true HA.out).mono ?_
        rintro e w2 ⟨rfl, rfl⟩
        go_wp2_with fail
        refine (in_impl_is _ _ _ _ false HB.out).mono ?_
        rintro e w2 ⟨rfl, rfl⟩
        go_wp2_with fail
        refine bodyPost_ret (v := .tuple #[.agg #[.int .i64 0, .int .i64 0, .int .i64 0], .bool false]) (by simp [results, Try.results25, go_sem, p0, p1, p2]) rfl ⟨rfl, ?_⟩
        exact below_set3 _ _ _ hbw (by simp)
    · rw [show shiftS x y d a b = zeroS by unfold shiftS; rw [if_neg (by omega)]]
      unfold zeroS
      rw [hk] at HO
      have HA := Lib.hid (inB_no (n := a) (lo := -2000) (hi := 2000) (by omega))
      clear hk ka
      go_enter Try.func25, Try.ntmps25
      go_wp2_with fail
      refine (HO.out _).mono ?_
      rintro e w1 ⟨rfl, bl1⟩
      obtain ⟨_, ⟨p0, p1, p2, f0, f1, f2⟩, hbw⟩ := sboxes bl1
      clear bl1
      go_wp2_with fail
      refine (in_impl_is _ _ _ _ false HA.out).mono ?_
      rintro e w2 ⟨rfl, rfl⟩
      go_wp2_with fail
      refine bodyPost_ret (v := .tuple #[.agg #[.int .i64 0, .int .i64 0, .int .i64 0], .bool false]) (by simp [results, Try.results25, go_sem, p0, p1, p2]) rfl ⟨rfl, ?_⟩
      exact below_set3 _ _ _ hbw (by simp)
end Go.Proofs.Ytkodoedkdgldnaa
