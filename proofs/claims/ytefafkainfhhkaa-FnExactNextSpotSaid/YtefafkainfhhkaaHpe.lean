/- The contracts of both CrossingOf functions over the translation. The walk of CrossingOf's law. -/
import Derived.Test.YtefafkainfhhkaaHpd
namespace Go.Proofs.Ytefafkainfhhkaa
open Go.RowKit

/-- the crossing of two borders -/
def crsV (a b c x y d : Int) : Value := if a * y - b * x < 0 then ansS (-(c * y - b * d)) (-(a * d - c * x)) (-(a * y - b * x)) else ansS (c * y - b * d) (a * d - c * x) (a * y - b * x)
/-- what CrossingOf answers -/
def crsH (a b c x y d : Int) : Value := if okH a b c = true ∧ okH x y d = true then crsV a b c x y d else zeroS
theorem crsV_ex (a b c x y d : Int) : ∃ X Y D : Int, ∃ B : Bool, crsV a b c x y d = .tuple #[.agg #[.int .i64 X, .int .i64 Y, .int .i64 D], .bool B] := by
  unfold crsV
  split
  · exact ansS_ex _ _ _
  · exact ansS_ex _ _ _
theorem crsH_ex (a b c x y d : Int) : ∃ X Y D : Int, ∃ B : Bool, crsH a b c x y d = .tuple #[.agg #[.int .i64 X, .int .i64 Y, .int .i64 D], .bool B] := by
  unfold crsH
  split
  · exact crsV_ex _ _ _ _ _ _
  · exact ⟨0, 0, 0, false, rfl⟩
theorem crs_in {a b c x y d : Int} (h : okH a b c = true) (k : okH x y d = true) : (-5000000000000 ≤ c * y ∧ c * y ≤ 5000000000000) ∧ (-5000000000000 ≤ b * d ∧ b * d ≤ 5000000000000) ∧ (-5000000000000 ≤ a * d ∧ a * d ≤ 5000000000000) ∧ (-5000000000000 ≤ c * x ∧ c * x ≤ 5000000000000) := by
  obtain ⟨a1, a2, b1, b2, _, c1, c2, _⟩ := (okH_iff _ _ _).1 h
  obtain ⟨x1, x2, y1, y2, _, d1, d2, _⟩ := (okH_iff _ _ _).1 k
  have m1 := mul_in c y 100000000 50000 c1 c2 y1 y2
  have m2 := mul_in b d 50000 100000000 b1 b2 d1 d2
  have m3 := mul_in a d 50000 100000000 a1 a2 d1 d2
  have m4 := mul_in c x 100000000 50000 c1 c2 x1 x2
  exact ⟨by omega, by omega, by omega, by omega⟩

set_option maxHeartbeats 3200000 in
theorem spec_crs0 (a b c x y d : Int) (w : World) (h : okH a b c = true) (k : okH x y d = true) :
    Calls Try.prog 136 #[.agg #[.int .i64 a, .int .i64 b, .int .i64 c], .agg #[.int .i64 x, .int .i64 y, .int .i64 d]] w fun e w' => e = .returned (crsV a b c x y d) ∧ Below w.heap.size w w' := by
  obtain ⟨⟨m0, m1⟩, ⟨n0, n1⟩, _, _⟩ := turn_in h k
  obtain ⟨⟨s0, s1⟩, ⟨t0, t1⟩, ⟨u0, u1⟩, ⟨v0, v1⟩⟩ := crs_in h k
  clear h k
  have hw := below_bx2 (below_bx2 (below_box w (.cells #[.int .i64 a, .int .i64 b, .int .i64 c] 88)) (.cells #[.int .i64 x, .int .i64 y, .int .i64 d] 88)) (.cells #[.int .i64 0, .int .i64 0, .int .i64 0] 60)
  unfold crsV
  generalize e1 : a * y = P at *
  generalize e2 : b * x = Q at *
  generalize e3 : c * y = R at *
  generalize e4 : b * d = S at *
  generalize e5 : a * d = T at *
  generalize e6 : c * x = U at *
  have f2 : x * b = Q := by rw [Int.mul_comm]; exact e2
  have f4 : d * b = S := by rw [Int.mul_comm]; exact e4
  have f6 : x * c = U := by rw [Int.mul_comm]; exact e6
  by_cases hD : P - Q < 0
  · rw [if_pos hD]
    have HS := Lib.hid (fun W => spec_sof (-(R - S)) (-(T - U)) (-(P - Q)) W (by omega) (by omega) (by omega) (by omega) (by omega) (by omega))
    obtain ⟨X, Y, D, B, eA⟩ := ansS_ex (-(R - S)) (-(T - U)) (-(P - Q))
    rw [eA] at HS ⊢
    clear eA
    go_enter Try.func136, Try.ntmps136
    go_wp2_with fail
    refine (HS.out _).mono ?_
    rintro e w1 ⟨rfl, bl1⟩
    obtain ⟨_, _, ⟨p0, p1, p2, g0, g1, g2⟩, hbw⟩ := sboxes3 bl1
    clear bl1 HS
    go_wp2_with fail
    refine bodyPost_ret (v := .tuple #[.agg #[.int .i64 X, .int .i64 Y, .int .i64 D], .bool B]) (by simp [results, Try.results136, go_sem, p0, p1, p2]) rfl ⟨rfl, ?_⟩
    exact below_set3 _ _ _ hbw (by omega)
  · rw [if_neg hD]
    have HS := Lib.hid (fun W => spec_sof (R - S) (T - U) (P - Q) W (by omega) (by omega) (by omega) (by omega) (by omega) (by omega))
    obtain ⟨X, Y, D, B, eA⟩ := ansS_ex (R - S) (T - U) (P - Q)
    rw [eA] at HS ⊢
    clear eA
    go_enter Try.func136, Try.ntmps136
    go_wp2_with fail
    refine (HS.out _).mono ?_
    rintro e w1 ⟨rfl, bl1⟩
    obtain ⟨_, _, ⟨p0, p1, p2, g0, g1, g2⟩, hbw⟩ := sboxes3 bl1
    clear bl1 HS
    go_wp2_with fail
    refine bodyPost_ret (v := .tuple #[.agg #[.int .i64 X, .int .i64 Y, .int .i64 D], .bool B]) (by simp [results, Try.results136, go_sem, p0, p1, p2]) rfl ⟨rfl, ?_⟩
    exact below_set3 _ _ _ hbw (by omega)
set_option maxHeartbeats 3200000 in
theorem impl_crs (a b c x y d : Int) (w : World) (ha : -9223372036854775808 ≤ a) (ha2 : a ≤ 9223372036854775807) (hb : -9223372036854775808 ≤ b) (hb2 : b ≤ 9223372036854775807) (hc : -9223372036854775808 ≤ c) (hc2 : c ≤ 9223372036854775807) (hx : -9223372036854775808 ≤ x) (hx2 : x ≤ 9223372036854775807) (hy : -9223372036854775808 ≤ y) (hy2 : y ≤ 9223372036854775807) (hd : -9223372036854775808 ≤ d) (hd2 : d ≤ 9223372036854775807) :
    Calls Try.prog 139 #[.agg #[.int .i64 a, .int .i64 b, .int .i64 c], .agg #[.int .i64 x, .int .i64 y, .int .i64 d]] w fun e w' => e = .returned (crsH a b c x y d) ∧ Below w.heap.size w w' := by
  have HO := Lib.hid (fun W => impl_hok a b c W ha ha2 hb hb2 hc hc2)
  have HP := Lib.hid (fun W => impl_hok x y d W hx hx2 hy hy2 hd hd2)
  cases hk : okH a b c with
  | false =>
    rw [show crsH a b c x y d = zeroS from if_neg (by rw [hk]; simp)]
    unfold zeroS
    rw [hk] at HO
    clear hk
    go_enter Try.func139, Try.ntmps139
    go_wp2_with fail
    refine (HO.out _).mono ?_
    rintro e w1 ⟨rfl, bl1⟩
    obtain ⟨_, _, ⟨p0, p1, p2, g0, g1, g2⟩, hbw⟩ := sboxes3 bl1
    clear bl1 HO HP
    go_wp2_with fail
    refine bodyPost_ret (v := .tuple #[.agg #[.int .i64 0, .int .i64 0, .int .i64 0], .bool false]) (by simp [results, Try.results139, go_sem, p0, p1, p2]) rfl ⟨rfl, ?_⟩
    exact below_set3 _ _ _ hbw (by omega)
  | true =>
    cases hl : okH x y d with
    | false =>
      rw [show crsH a b c x y d = zeroS from if_neg (by rw [hl]; simp)]
      unfold zeroS
      rw [hk] at HO
      rw [hl] at HP
      clear hk hl
      go_enter Try.func139, Try.ntmps139
      go_wp2_with fail
      refine (HO.out _).mono ?_
      rintro e w1 ⟨rfl, bl1⟩
      obtain ⟨_, ⟨r0, r1, r2, _, _, _⟩, _, _⟩ := sboxes3 bl1
      go_wp2_with fail
      refine (HP.out _).mono ?_
      rintro e w2 ⟨rfl, bl2⟩
      obtain ⟨_, _, ⟨p0, p1, p2, g0, g1, g2⟩, hbw⟩ := sboxes3 (below_to bl1 bl2)
      clear bl1 bl2 HO HP r0 r1 r2
      go_wp2_with fail
      refine bodyPost_ret (v := .tuple #[.agg #[.int .i64 0, .int .i64 0, .int .i64 0], .bool false]) (by simp [results, Try.results139, go_sem, p0, p1, p2]) rfl ⟨rfl, ?_⟩
      exact below_set3 _ _ _ hbw (by omega)
    | true =>
      rw [show crsH a b c x y d = crsV a b c x y d from if_pos ⟨hk, hl⟩]
      have HT := Lib.hid (fun W => impl_turn a b c x y d W hk hl)
      obtain ⟨⟨m0, m1⟩, ⟨n0, n1⟩, _, _⟩ := turn_in hk hl
      obtain ⟨⟨s0, s1⟩, ⟨t0, t1⟩, ⟨u0, u1⟩, ⟨v0, v1⟩⟩ := crs_in hk hl
      rw [hk] at HO
      rw [hl] at HP
      clear hk hl
      unfold crsV
      generalize e1 : a * y = P at *
      generalize e2 : b * x = Q at *
      generalize e3 : c * y = R at *
      generalize e4 : b * d = S at *
      generalize e5 : a * d = T at *
      generalize e6 : c * x = U at *
      by_cases hD : P - Q < 0
      · rw [if_pos hD]
        have HS := Lib.hid (fun W => impl_sof (-(R - S)) (-(T - U)) (-(P - Q)) W (by omega) (by omega) (by omega) (by omega) (by omega) (by omega))
        obtain ⟨X, Y, D, B, eA⟩ := ansS_ex (-(R - S)) (-(T - U)) (-(P - Q))
        rw [eA] at HS ⊢
        clear eA
        go_enter Try.func139, Try.ntmps139
        go_wp2_with fail
        refine (HO.out _).mono ?_
        rintro e w1 ⟨rfl, bl1⟩
        obtain ⟨_, ⟨r0, r1, r2, _, _, _⟩, _, _⟩ := sboxes3 bl1
        go_wp2_with fail
        refine (HP.out _).mono ?_
        rintro e w2 ⟨rfl, bl2⟩
        clear r0 r1 r2
        obtain ⟨⟨q0, q1, q2, _, _, _⟩, ⟨r0, r1, r2, _, _, _⟩, H3, hbw⟩ := sboxes3 (below_to bl1 bl2)
        clear bl1 bl2 HO HP
        go_wp2_with fail
        refine (HT.out _).mono ?_
        rintro e w3 ⟨rfl, bl3⟩
        have hq := three bl3 ⟨q0, q1, q2⟩
        have hr := three bl3 ⟨r0, r1, r2⟩
        have H4 := has3_to bl3 H3
        have hb4 := below_to hbw bl3
        clear bl3 HT H3 q0 q1 q2 r0 r1 r2 hbw
        obtain ⟨q0, q1, q2⟩ := hq
        obtain ⟨r0, r1, r2⟩ := hr
        go_wp2_with fail
        go_quiet (fail)
        clear q0 q1 q2 r0 r1 r2
        go_wp2_with fail
        refine (HS.out _).mono ?_
        rintro e w4 ⟨rfl, bl4⟩
        have bl5 := below_to (below_drew (Below.refl _ w3) _) bl4
        obtain ⟨p0, p1, p2, g0, g1, g2⟩ := has3_to bl5 H4
        have hfin := below_to hb4 bl5
        clear bl4 bl5 HS H4 hb4
        go_wp2_with fail
        refine bodyPost_ret (v := .tuple #[.agg #[.int .i64 X, .int .i64 Y, .int .i64 D], .bool B]) (by simp [results, Try.results139, go_sem, p0, p1, p2]) rfl ⟨rfl, ?_⟩
        exact below_set3 _ _ _ hfin (by omega)
      · rw [if_neg hD]
        have HS := Lib.hid (fun W => impl_sof (R - S) (T - U) (P - Q) W (by omega) (by omega) (by omega) (by omega) (by omega) (by omega))
        obtain ⟨X, Y, D, B, eA⟩ := ansS_ex (R - S) (T - U) (P - Q)
        rw [eA] at HS ⊢
        clear eA
        go_enter Try.func139, Try.ntmps139
        go_wp2_with fail
        refine (HO.out _).mono ?_
        rintro e w1 ⟨rfl, bl1⟩
        obtain ⟨_, ⟨r0, r1, r2, _, _, _⟩, _, _⟩ := sboxes3 bl1
        go_wp2_with fail
        refine (HP.out _).mono ?_
        rintro e w2 ⟨rfl, bl2⟩
        clear r0 r1 r2
        obtain ⟨⟨q0, q1, q2, _, _, _⟩, ⟨r0, r1, r2, _, _, _⟩, H3, hbw⟩ := sboxes3 (below_to bl1 bl2)
        clear bl1 bl2 HO HP
        go_wp2_with fail
        refine (HT.out _).mono ?_
        rintro e w3 ⟨rfl, bl3⟩
        have hq := three bl3 ⟨q0, q1, q2⟩
        have hr := three bl3 ⟨r0, r1, r2⟩
        have H4 := has3_to bl3 H3
        have hb4 := below_to hbw bl3
        clear bl3 HT H3 q0 q1 q2 r0 r1 r2 hbw
        obtain ⟨q0, q1, q2⟩ := hq
        obtain ⟨r0, r1, r2⟩ := hr
        go_wp2_with fail
        go_quiet (fail)
        clear q0 q1 q2 r0 r1 r2
        go_wp2_with fail
        refine (HS.out _).mono ?_
        rintro e w4 ⟨rfl, bl4⟩
        have bl5 := below_to (below_drew (Below.refl _ w3) _) bl4
        obtain ⟨p0, p1, p2, g0, g1, g2⟩ := has3_to bl5 H4
        have hfin := below_to hb4 bl5
        clear bl4 bl5 HS H4 hb4
        go_wp2_with fail
        refine bodyPost_ret (v := .tuple #[.agg #[.int .i64 X, .int .i64 Y, .int .i64 D], .bool B]) (by simp [results, Try.results139, go_sem, p0, p1, p2]) rfl ⟨rfl, ?_⟩
        exact below_set3 _ _ _ hfin (by omega)

end Go.Proofs.Ytefafkainfhhkaa
