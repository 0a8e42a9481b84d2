/- The contracts of both HalfWay functions over the translation. -/
import Derived.Test.YtbdehelcpfkcmaaDoorShl
namespace Go.Proofs.YtbdehelcpfkcmaaDoor
open Go.RowKit

/-- what HalfWay answers -/
def halfS (a b c x y d : Int) : Value := if okS a b c = true ∧ okS x y d = true ∧ c ≤ 1000000 ∧ d ≤ 1000000 then ansS (a * d + x * c) (b * d + y * c) (2 * c * d) else zeroS
theorem halfS_ex (a b c x y d : Int) : ∃ X Y D : Int, ∃ B : Bool, halfS a b c x y d = .tuple #[.agg #[.int .i64 X, .int .i64 Y, .int .i64 D], .bool B] := by
  unfold halfS
  split
  · exact ansS_ex _ _ _
  · exact ⟨0, 0, 0, false, rfl⟩
theorem sboxes3 {w w1 : World} {a b c x y d p q r : Value} {T U V : TypeId} (hb : Below (((w.alloc (.cells #[a, b, c] T)).alloc (.cells #[x, y, d] U)).alloc (.cells #[p, q, r] V)).heap.size (((w.alloc (.cells #[a, b, c] T)).alloc (.cells #[x, y, d] U)).alloc (.cells #[p, q, r] V)) w1) :
    Has3 w1 w.heap.size a b c ∧ Has3 w1 (w.heap.size + 1) x y d ∧ Has3 w1 (w.heap.size + 1 + 1) p q r ∧ Below w.heap.size w w1 := by
  obtain ⟨h1, h2, h3⟩ := sboxes hb
  have e : (w.alloc (.cells #[a, b, c] T)).heap.size = w.heap.size + 1 := by simp
  rw [e] at h1 h2
  refine ⟨has3_to (below_to (below_bx2 (below_box _ _) _) hb) (has3_new w a b c T), h1, h2, ?_⟩
  exact below_to (below_box w _) h3

set_option maxHeartbeats 3200000 in
theorem impl_half (a b c x y d : Int) (w : World) (ha : -9223372036854775808 ≤ a) (ha2 : a ≤ 9223372036854775807) (hb : -9223372036854775808 ≤ b) (hb2 : b ≤ 9223372036854775807) (hc : -9223372036854775808 ≤ c) (hc2 : c ≤ 9223372036854775807) (hx : -9223372036854775808 ≤ x) (hx2 : x ≤ 9223372036854775807) (hy : -9223372036854775808 ≤ y) (hy2 : y ≤ 9223372036854775807) (hd : -9223372036854775808 ≤ d) (hd2 : d ≤ 9223372036854775807) :
    Calls Tryd.prog 9 #[.agg #[.int .i64 a, .int .i64 b, .int .i64 c], .agg #[.int .i64 x, .int .i64 y, .int .i64 d]] w fun e w' => e = .returned (halfS a b c x y d) ∧ Below w.heap.size w w' := by
  have HO := Lib.hid (fun W => impl_sok a b c W ha ha2 hb hb2 hc hc2)
  have HP := Lib.hid (fun W => impl_sok x y d W hx hx2 hy hy2 hd hd2)
  by_cases hh : okS a b c = true ∧ okS x y d = true ∧ c ≤ 1000000 ∧ d ≤ 1000000
  · obtain ⟨k1, k2, k3, k4⟩ := hh
    rw [show halfS a b c x y d = ansS (a * d + x * c) (b * d + y * c) (2 * c * d) from if_pos ⟨k1, k2, k3, k4⟩]
    obtain ⟨a1, _, a3, a4, a5, a6, _⟩ := (okS_iff _ _ _).1 k1
    obtain ⟨b1, _, b3, b4, b5, b6, _⟩ := (okS_iff _ _ _).1 k2
    have m1 := mul_in a d 1000000000 1000000 (by omega) (by omega) (by omega) k4
    have m2 := mul_in x c 1000000000 1000000 (by omega) (by omega) (by omega) k3
    have m3 := mul_in b d 1000000000 1000000 (by omega) (by omega) (by omega) k4
    have m4 := mul_in y c 1000000000 1000000 (by omega) (by omega) (by omega) k3
    have m5 := mul_in (2 * c) d 2000000 1000000 (by omega) (by omega) (by omega) k4
    have HS := Lib.hid (fun W => impl_sof (a * d + x * c) (b * d + y * c) (2 * c * d) W (by omega) (by omega) (by omega) (by omega) (by omega) (by omega))
    obtain ⟨X, Y, D, B, eA⟩ := ansS_ex (a * d + x * c) (b * d + y * c) (2 * c * d)
    rw [eA] at HS ⊢
    rw [k1] at HO
    rw [k2] at HP
    clear eA k1 k2 a3 a4 a5 a6 b3 b4 b5 b6 ha ha2 hb hb2 hx hx2 hy hy2
    generalize e1 : a * d = P at *
    generalize e2 : x * c = Q at *
    generalize e3 : b * d = R at *
    generalize e4 : y * c = S at *
    generalize e5 : 2 * c * d = U at *
    go_enter Tryd.func9, Tryd.ntmps9
    go_wp2_with fail
    refine (HO.out _).mono ?_
    rintro e w1 ⟨rfl, bl1⟩
    obtain ⟨⟨q0, q1, q2, _, _, _⟩, ⟨p0, p1, p2, _, _, _⟩, H3, hbw⟩ := sboxes3 bl1
    go_wp2_with fail
    refine (HP.out _).mono ?_
    rintro e w2 ⟨rfl, bl2⟩
    clear q0 q1 q2 p0 p1 p2 H3 hbw
    obtain ⟨⟨q0, q1, q2, _, _, _⟩, ⟨p0, p1, p2, _, _, _⟩, H3, hbw⟩ := sboxes3 (below_to bl1 bl2)
    clear bl1 bl2
    go_wp2_with fail
    refine (HS.out _).mono ?_
    rintro e w3 ⟨rfl, bl3⟩
    obtain ⟨r0, r1, r2, f0, f1, f2⟩ := has3_to bl3 H3
    clear q0 q1 q2 p0 p1 p2 H3
    go_wp2_with fail
    refine bodyPost_ret (v := .tuple #[.agg #[.int .i64 X, .int .i64 Y, .int .i64 D], .bool B]) (by simp [results, Tryd.results9, go_sem, r0, r1, r2]) rfl ⟨rfl, ?_⟩
    exact below_set3 _ _ _ (below_to hbw bl3) (by omega)
  · rw [show halfS a b c x y d = zeroS from if_neg hh]
    unfold zeroS
    cases k1 : okS a b c with
    | false =>
      rw [k1] at HO
      clear hh k1
      go_enter Tryd.func9, Tryd.ntmps9
      go_wp2_with fail
      refine (HO.out _).mono ?_
      rintro e w1 ⟨rfl, bl1⟩
      obtain ⟨_, _, ⟨r0, r1, r2, f0, f1, f2⟩, hbw⟩ := sboxes3 bl1
      clear bl1
      go_wp2_with fail
      refine bodyPost_ret (v := .tuple #[.agg #[.int .i64 0, .int .i64 0, .int .i64 0], .bool false]) (by simp [results, Tryd.results9, go_sem, r0, r1, r2]) rfl ⟨rfl, ?_⟩
      exact below_set3 _ _ _ hbw (by omega)
    | true =>
      cases k2 : okS x y d with
      | false =>
        rw [k1] at HO
        rw [k2] at HP
        clear hh k1 k2
        go_enter Tryd.func9, Tryd.ntmps9
        go_wp2_with fail
        refine (HO.out _).mono ?_
        rintro e w1 ⟨rfl, bl1⟩
        obtain ⟨_, ⟨p0, p1, p2, _, _, _⟩, _, _⟩ := sboxes3 bl1
        go_wp2_with fail
        refine (HP.out _).mono ?_
        rintro e w2 ⟨rfl, bl2⟩
        clear p0 p1 p2
        obtain ⟨_, _, ⟨r0, r1, r2, f0, f1, f2⟩, hbw⟩ := sboxes3 (below_to bl1 bl2)
        clear bl1 bl2
        go_wp2_with fail
        refine bodyPost_ret (v := .tuple #[.agg #[.int .i64 0, .int .i64 0, .int .i64 0], .bool false]) (by simp [results, Tryd.results9, go_sem, r0, r1, r2]) rfl ⟨rfl, ?_⟩
        exact below_set3 _ _ _ hbw (by omega)
      | true =>
        have k3 : ¬ (c ≤ 1000000 ∧ d ≤ 1000000) := fun h => hh ⟨k1, k2, h.1, h.2⟩
        have k4 : 1000000 < c ∨ (c ≤ 1000000 ∧ 1000000 < d) := by omega
        rw [k1] at HO
        rw [k2] at HP
        clear hh k1 k2 k3
        rcases k4 with k4 | ⟨k4, k5⟩
        all_goals
          go_enter Tryd.func9, Tryd.ntmps9
          go_wp2_with fail
          refine (HO.out _).mono ?_
          rintro e w1 ⟨rfl, bl1⟩
          obtain ⟨_, ⟨p0, p1, p2, _, _, _⟩, _, _⟩ := sboxes3 bl1
          go_wp2_with fail
          refine (HP.out _).mono ?_
          rintro e w2 ⟨rfl, bl2⟩
          clear p0 p1 p2
          obtain ⟨⟨q0, q1, q2, _, _, _⟩, ⟨p0, p1, p2, _, _, _⟩, ⟨r0, r1, r2, f0, f1, f2⟩, hbw⟩ := sboxes3 (below_to bl1 bl2)
          clear bl1 bl2
          go_wp2_with fail
          refine bodyPost_ret (v := .tuple #[.agg #[.int .i64 0, .int .i64 0, .int .i64 0], .bool false]) (by simp [results, Tryd.results9, go_sem, r0, r1, r2]) rfl ⟨rfl, ?_⟩
          exact below_set3 _ _ _ hbw (by omega)
end Go.Proofs.YtbdehelcpfkcmaaDoor
