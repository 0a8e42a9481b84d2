/- Plain facts on half planes: what is valid. The contracts of both HalfOk functions over the translation, and the walk of their law. The contracts of both HalfOf functions over the translation, away from the least int. The contracts of both SideOf, HoldsAt and OtherSide functions over the translation. The walks of SideOf's and HoldsAt's laws. The contracts of both OtherSide functions over the translation, and the walk of their law. -/
import Derived.Test.YtibkmhmeoelpdaaGreatSpo
namespace Go.Proofs.YtibkmhmeoelpdaaGreat
open Go.RowKit

/-- the half plane a x + b y <= c is valid -/
def okH (a b c : Int) : Bool := decide (-50000 ≤ a) && decide (a ≤ 50000) && decide (-50000 ≤ b) && decide (b ≤ 50000) && decide (a ≠ 0 ∨ b ≠ 0) && decide (-100000000 ≤ c) && decide (c ≤ 100000000) && decide (gS a b c = 1)
theorem okH_iff (a b c : Int) : okH a b c = true ↔ -50000 ≤ a ∧ a ≤ 50000 ∧ -50000 ≤ b ∧ b ≤ 50000 ∧ (a ≠ 0 ∨ b ≠ 0) ∧ -100000000 ≤ c ∧ c ≤ 100000000 ∧ gS a b c = 1 := by
  unfold okH; simp only [Bool.and_eq_true, decide_eq_true_eq, and_assoc]
theorem okH_no {a b c : Int} (h : a < -50000 ∨ 50000 < a ∨ b < -50000 ∨ 50000 < b ∨ (a = 0 ∧ b = 0) ∨ c < -100000000 ∨ 100000000 < c) : okH a b c = false := by
  cases hx : okH a b c with
  | false => rfl
  | true => obtain ⟨h1, h2, h3, h4, h5, h6, h7, _⟩ := (okH_iff _ _ _).1 hx; omega
theorem okH_yes {a b c : Int} (h1 : -50000 ≤ a) (h2 : a ≤ 50000) (h3 : -50000 ≤ b) (h4 : b ≤ 50000) (h5 : a ≠ 0 ∨ b ≠ 0) (h6 : -100000000 ≤ c) (h7 : c ≤ 100000000) : okH a b c = ((gS a b c : Int) == 1) := by
  unfold okH
  rw [decide_eq_true h1, decide_eq_true h2, decide_eq_true h3, decide_eq_true h4, decide_eq_true h5, decide_eq_true h6, decide_eq_true h7]
  simp
  rw [Bool.eq_iff_iff]; simp; omega

set_option maxHeartbeats 3200000 in
theorem spec_hok (a b c : Int) (w : World) (ha : -9223372036854775808 ≤ a) (ha2 : a ≤ 9223372036854775807) (hb : -9223372036854775808 ≤ b) (hb2 : b ≤ 9223372036854775807) (hc : -9223372036854775808 ≤ c) (hc2 : c ≤ 9223372036854775807) :
    Calls Tryz.prog 127 #[.agg #[.int .i64 a, .int .i64 b, .int .i64 c]] w fun e w' => e = .returned (.bool (okH a b c)) ∧ Below w.heap.size w w' := by
  have hw := below_box w (.cells #[.int .i64 a, .int .i64 b, .int .i64 c] 104)
  by_cases h1 : -50000 ≤ a ∧ a ≤ 50000
  · obtain ⟨h1, h2⟩ := h1
    have HA := Lib.hid (inB_yes h1 h2)
    by_cases h3 : -50000 ≤ b ∧ b ≤ 50000
    · obtain ⟨h3, h4⟩ := h3
      have HB := Lib.hid (inB_yes h3 h4)
      by_cases h0 : a ≠ 0 ∨ b ≠ 0
      · have hz : (a != 0) = true ∨ ((a != 0) = false ∧ (b != 0) = true) := by
          by_cases k : a = 0
          · exact .inr ⟨by simp [k], by simp; omega⟩
          · exact .inl (by simpa using k)
        by_cases h5 : -100000000 ≤ c ∧ c ≤ 100000000
        · obtain ⟨h5, h6⟩ := h5
          have HC := Lib.hid (inB_yes h5 h6)
          rw [okH_yes h1 h2 h3 h4 h0 h5 h6]
          have HX := Lib.hid (fun W => spec_gcd a b W ha ha2 hb hb2)
          rw [gcdR_of a b (by omega) (by omega)] at HX
          have hg := gcd_le_max a b 50000 h1 h2 h3 h4
          have HY := Lib.hid (fun W => spec_gcd (Int.gcd a b) c W (by omega) (by omega) hc hc2)
          rw [gcdR_of (Int.gcd a b) c (by omega) (by omega)] at HY
          have HG := Lib.hid (show (gS a b c : Int) = (Int.gcd (Int.gcd a b) c : Int) from rfl)
          rw [HG.out]
          clear HG h0
          generalize ((Int.gcd ((Int.gcd a b : Nat) : Int) c : Nat) : Int) = K at *
          generalize ((Int.gcd a b : Nat) : Int) = G at *
          rcases hz with hz | ⟨hz, hz2⟩
          all_goals
            go_enter Tryz.func127, Tryz.ntmps127
            go_wp2_with fail
            go_quiet ((first
              | (go_at_call 88; first | (with_reducible exact Calls.quiet_of_same (in_spec_is _ _ _ _ true HA.out)) | (with_reducible exact Calls.quiet_of_same (in_spec_is _ _ _ _ true HB.out)) | (with_reducible exact Calls.quiet_of_same (in_spec_is _ _ _ _ true HC.out)))
              | (go_at_call 89; first | (with_reducible exact Calls.quiet_of (HX.out _)) | (with_reducible exact Calls.quiet_of (HY.out _)))
              | fail))
            go_wp2_with fail
            go_ret
            exact ⟨rfl, below_drew hw _⟩
        · rw [okH_no (a := a) (b := b) (c := c) (by omega)]
          have HC := Lib.hid (inB_no (n := c) (lo := -100000000) (hi := 100000000) (by omega))
          clear h5 h0
          rcases hz with hz | ⟨hz, hz2⟩
          all_goals
            go_enter Tryz.func127, Tryz.ntmps127
            go_wp2_with fail
            go_quiet ((first
              | (go_at_call 88; first | (with_reducible exact Calls.quiet_of_same (in_spec_is _ _ _ _ true HA.out)) | (with_reducible exact Calls.quiet_of_same (in_spec_is _ _ _ _ true HB.out)) | (with_reducible exact Calls.quiet_of_same (in_spec_is _ _ _ _ false HC.out)))
              | fail))
            go_wp2_with fail
            go_ret
            exact ⟨rfl, below_drew hw _⟩
      · rw [okH_no (a := a) (b := b) (c := c) (by omega)]
        have hz : (a != 0) = false := by simp; omega
        have hz2 : (b != 0) = false := by simp; omega
        clear h0
        go_enter Tryz.func127, Tryz.ntmps127
        go_wp2_with fail
        go_quiet ((first
          | (go_at_call 88; first | (with_reducible exact Calls.quiet_of_same (in_spec_is _ _ _ _ true HA.out)) | (with_reducible exact Calls.quiet_of_same (in_spec_is _ _ _ _ true HB.out)))
          | fail))
        go_wp2_with fail
        go_ret
        exact ⟨rfl, below_drew hw _⟩
    · rw [okH_no (a := a) (b := b) (c := c) (by omega)]
      have HB := Lib.hid (inB_no (n := b) (lo := -50000) (hi := 50000) (by omega))
      clear h3
      go_enter Tryz.func127, Tryz.ntmps127
      go_wp2_with fail
      go_quiet ((first
        | (go_at_call 88; first | (with_reducible exact Calls.quiet_of_same (in_spec_is _ _ _ _ true HA.out)) | (with_reducible exact Calls.quiet_of_same (in_spec_is _ _ _ _ false HB.out)))
        | fail))
      go_wp2_with fail
      go_ret
      exact ⟨rfl, below_drew hw _⟩
  · rw [okH_no (a := a) (b := b) (c := c) (by omega)]
    have HA := Lib.hid (inB_no (n := a) (lo := -50000) (hi := 50000) (by omega))
    clear h1
    go_enter Tryz.func127, Tryz.ntmps127
    go_wp2_with fail
    go_quiet ((first
      | (go_at_call 88; first | (with_reducible exact Calls.quiet_of_same (in_spec_is _ _ _ _ false HA.out)))
      | fail))
    go_wp2_with fail
    go_ret
    exact ⟨rfl, below_drew hw _⟩

set_option maxHeartbeats 3200000 in
theorem impl_hok (a b c : Int) (w : World) (ha : -9223372036854775808 ≤ a) (ha2 : a ≤ 9223372036854775807) (hb : -9223372036854775808 ≤ b) (hb2 : b ≤ 9223372036854775807) (hc : -9223372036854775808 ≤ c) (hc2 : c ≤ 9223372036854775807) :
    Calls Tryz.prog 121 #[.agg #[.int .i64 a, .int .i64 b, .int .i64 c]] w fun e w' => e = .returned (.bool (okH a b c)) ∧ Below w.heap.size w w' := by
  have hw := below_box w (.cells #[.int .i64 a, .int .i64 b, .int .i64 c] 104)
  by_cases h1 : -50000 ≤ a ∧ a ≤ 50000
  · obtain ⟨h1, h2⟩ := h1
    have HA := Lib.hid (inB_yes h1 h2)
    by_cases h3 : -50000 ≤ b ∧ b ≤ 50000
    · obtain ⟨h3, h4⟩ := h3
      have HB := Lib.hid (inB_yes h3 h4)
      by_cases h5 : -100000000 ≤ c ∧ c ≤ 100000000
      · obtain ⟨h5, h6⟩ := h5
        have HC := Lib.hid (inB_yes h5 h6)
        by_cases h0 : a ≠ 0 ∨ b ≠ 0
        · have hz : (a != 0) = true ∨ ((a != 0) = false ∧ (b != 0) = true) := by
            by_cases k : a = 0
            · exact .inr ⟨by simp [k], by simp; omega⟩
            · exact .inl (by simpa using k)
          rw [okH_yes h1 h2 h3 h4 h0 h5 h6]
          have HX := Lib.hid (fun W => impl_gcd a b W ha ha2 hb hb2)
          rw [gcdR_of a b (by omega) (by omega)] at HX
          have hg := gcd_le_max a b 50000 h1 h2 h3 h4
          have HY := Lib.hid (fun W => impl_gcd (Int.gcd a b) c W (by omega) (by omega) hc hc2)
          rw [gcdR_of (Int.gcd a b) c (by omega) (by omega)] at HY
          have HG := Lib.hid (show (gS a b c : Int) = (Int.gcd (Int.gcd a b) c : Int) from rfl)
          rw [HG.out]
          clear HG h0
          generalize ((Int.gcd ((Int.gcd a b : Nat) : Int) c : Nat) : Int) = K at *
          generalize ((Int.gcd a b : Nat) : Int) = G at *
          rcases hz with hz | ⟨hz, hz2⟩
          all_goals
            go_enter Tryz.func121, Tryz.ntmps121
            go_wp2_with fail
            refine (in_impl_is _ _ _ _ true HA.out).mono ?_
            rintro e w1 ⟨rfl, rfl⟩
            go_wp2_with fail
            refine (in_impl_is _ _ _ _ true HB.out).mono ?_
            rintro e w1 ⟨rfl, rfl⟩
            go_wp2_with fail
            refine (in_impl_is _ _ _ _ true HC.out).mono ?_
            rintro e w1 ⟨rfl, rfl⟩
            go_wp2_with fail
            go_quiet ((go_at_call 69; first | (with_reducible exact Calls.quiet_of (HX.out _)) | (with_reducible exact Calls.quiet_of (HY.out _))))
            go_wp2_with fail
            go_ret
            exact ⟨rfl, below_drew hw _⟩
        · rw [okH_no (a := a) (b := b) (c := c) (by omega)]
          have hz : (a != 0) = false := by simp; omega
          have hz2 : (b != 0) = false := by simp; omega
          clear h0
          go_enter Tryz.func121, Tryz.ntmps121
          go_wp2_with fail
          refine (in_impl_is _ _ _ _ true HA.out).mono ?_
          rintro e w1 ⟨rfl, rfl⟩
          go_wp2_with fail
          refine (in_impl_is _ _ _ _ true HB.out).mono ?_
          rintro e w1 ⟨rfl, rfl⟩
          go_wp2_with fail
          refine (in_impl_is _ _ _ _ true HC.out).mono ?_
          rintro e w1 ⟨rfl, rfl⟩
          go_wp2_with fail
          go_quiet (fail)
          go_wp2_with fail
          go_ret
          exact ⟨rfl, below_drew hw _⟩
      · rw [okH_no (a := a) (b := b) (c := c) (by omega)]
        have HC := Lib.hid (inB_no (n := c) (lo := -100000000) (hi := 100000000) (by omega))
        clear h5
        go_enter Tryz.func121, Tryz.ntmps121
        go_wp2_with fail
        refine (in_impl_is _ _ _ _ true HA.out).mono ?_
        rintro e w1 ⟨rfl, rfl⟩
        go_wp2_with fail
        refine (in_impl_is _ _ _ _ true HB.out).mono ?_
        rintro e w1 ⟨rfl, rfl⟩
        go_wp2_with fail
        refine (in_impl_is _ _ _ _ false HC.out).mono ?_
        rintro e w1 ⟨rfl, rfl⟩
        go_wp2_with fail
        go_ret
        exact ⟨rfl, hw⟩
    · rw [okH_no (a := a) (b := b) (c := c) (by omega)]
      have HB := Lib.hid (inB_no (n := b) (lo := -50000) (hi := 50000) (by omega))
      clear h3
      go_enter Tryz.func121, Tryz.ntmps121
      go_wp2_with fail
      refine (in_impl_is _ _ _ _ true HA.out).mono ?_
      rintro e w1 ⟨rfl, rfl⟩
      go_wp2_with fail
      refine (in_impl_is _ _ _ _ false HB.out).mono ?_
      rintro e w1 ⟨rfl, rfl⟩
      go_wp2_with fail
      go_ret
      exact ⟨rfl, hw⟩
  · rw [okH_no (a := a) (b := b) (c := c) (by omega)]
    have HA := Lib.hid (inB_no (n := a) (lo := -50000) (hi := 50000) (by omega))
    clear h1
    go_enter Tryz.func121, Tryz.ntmps121
    go_wp2_with fail
    refine (in_impl_is _ _ _ _ false HA.out).mono ?_
    rintro e w1 ⟨rfl, rfl⟩
    go_wp2_with fail
    go_ret
    exact ⟨rfl, hw⟩

/-- there is a valid half plane a x + b y <= c -/
def hasH (a b c : Int) : Bool := decide (a ≠ 0 ∨ b ≠ 0) && okH (a.tdiv (gS a b c)) (b.tdiv (gS a b c)) (c.tdiv (gS a b c))
theorem hasH_of {a b c : Int} (h : a ≠ 0 ∨ b ≠ 0) : hasH a b c = okH (a.tdiv (gS a b c)) (b.tdiv (gS a b c)) (c.tdiv (gS a b c)) := by
  unfold hasH; rw [decide_eq_true h, Bool.true_and]
theorem hasH_no {a b c : Int} (h : a = 0 ∧ b = 0) : hasH a b c = false := by
  unfold hasH; rw [decide_eq_false (by omega), Bool.false_and]
/-- what HalfOf answers -/
def ansH (a b c : Int) : Value := .tuple #[.agg #[.int .i64 (kp (hasH a b c) (a.tdiv (gS a b c))), .int .i64 (kp (hasH a b c) (b.tdiv (gS a b c))), .int .i64 (kp (hasH a b c) (c.tdiv (gS a b c)))], .bool (hasH a b c)]
theorem ansH_no {a b c : Int} (h : hasH a b c = false) : ansH a b c = zeroS := by unfold ansH; rw [h]; rfl
theorem ansH_yes {a b c : Int} (h : hasH a b c = true) : ansH a b c = spotS (a.tdiv (gS a b c)) (b.tdiv (gS a b c)) (c.tdiv (gS a b c)) := by unfold ansH; rw [h]; rfl
theorem gS_posH {a b c : Int} (h : a ≠ 0 ∨ b ≠ 0) : 1 ≤ gS a b c := by
  unfold gS
  have : 0 < Int.gcd a b := by
    rcases h with h | h
    · exact Nat.gcd_pos_of_pos_left _ (by omega)
    · exact Nat.gcd_pos_of_pos_right _ (by omega)
  exact Nat.gcd_pos_of_pos_left _ (by omega)
theorem gS_leH {a b c : Int} (h : a ≠ 0 ∨ b ≠ 0) (ha : -9223372036854775807 ≤ a) (ha2 : a ≤ 9223372036854775807) (hb : -9223372036854775807 ≤ b) (hb2 : b ≤ 9223372036854775807) : (gS a b c : Int) ≤ 9223372036854775807 := by
  have h1 := gcd_le_max a b 9223372036854775807 ha ha2 hb hb2
  have h2 : 0 < Int.gcd a b := by
    rcases h with h | h
    · exact Nat.gcd_pos_of_pos_left _ (by omega)
    · exact Nat.gcd_pos_of_pos_right _ (by omega)
  have h3 := Nat.gcd_le_left (m := (Int.gcd a b : Int).natAbs) c.natAbs (by omega)
  have : gS a b c = Nat.gcd (Int.gcd a b : Int).natAbs c.natAbs := rfl
  omega
theorem gcd_1 (a : Int) (ha : -9223372036854775807 ≤ a) : gcdR a 1 = 1 := by
  rw [gcdR_of a 1 (by omega) (by omega)]
  simp

set_option maxHeartbeats 3200000 in
theorem spec_hof (a b c : Int) (w : World) (ha : -9223372036854775807 ≤ a) (ha2 : a ≤ 9223372036854775807) (hb : -9223372036854775807 ≤ b) (hb2 : b ≤ 9223372036854775807) (hc : -9223372036854775807 ≤ c) (hc2 : c ≤ 9223372036854775807) :
    Calls Tryz.prog 109 #[.int .i64 a, .int .i64 b, .int .i64 c] w fun e w' => e = .returned (ansH a b c) ∧ Below w.heap.size w w' := by
  have hw := below_box w (.cells #[.int .i64 0, .int .i64 0, .int .i64 0] 104)
  have H0 := has3_new w (.int .i64 0) (.int .i64 0) (.int .i64 0) 104
  have HU := Lib.hid (fun W => spec_gcd a 1 W (by omega) ha2 (by omega) (by omega))
  rw [gcd_1 a ha] at HU
  have HV := Lib.hid (fun W => spec_gcd b 1 W (by omega) hb2 (by omega) (by omega))
  rw [gcd_1 b hb] at HV
  have HW := Lib.hid (fun W => spec_gcd c 1 W (by omega) hc2 (by omega) (by omega))
  rw [gcd_1 c hc] at HW
  by_cases h1 : a ≠ 0 ∨ b ≠ 0
  · have HX := Lib.hid (fun W => spec_gcd a b W (by omega) ha2 (by omega) hb2)
    rw [gcdR_of a b (by omega) (by omega)] at HX
    have hg := gcd_le_max a b 9223372036854775807 ha ha2 hb hb2
    have HY := Lib.hid (fun W => spec_gcd (Int.gcd a b) c W (by omega) (by omega) (by omega) hc2)
    rw [gcdR_of (Int.gcd a b) c (by omega) (by omega)] at HY
    have hg0 : (1 : Int) ≤ (gS a b c : Int) := by have := gS_posH (c := c) h1; omega
    have hg1 := gS_leH (c := c) h1 ha ha2 hb hb2
    have hX := tdiv_le a (gS a b c) 9223372036854775807 ha ha2
    have hY := tdiv_le b (gS a b c) 9223372036854775807 hb hb2
    have hD := tdiv_le c (gS a b c) 9223372036854775807 hc hc2
    have HS := Lib.hid (hasH_of (a := a) (b := b) (c := c) h1)
    have HZ := Lib.hid (fun h => ansH_no (a := a) (b := b) (c := c) h)
    have HT := Lib.hid (fun h => ansH_yes (a := a) (b := b) (c := c) h)
    have HG := Lib.hid (show (Int.gcd (Int.gcd a b) c : Int) = (gS a b c : Int) from rfl)
    rw [HG.out] at HY
    clear HG
    generalize ansH a b c = A at *
    generalize hasH a b c = B at *
    generalize ((gS a b c : Nat) : Int) = g at *
    generalize ((Int.gcd a b : Nat) : Int) = G at *
    generalize ex : a.tdiv g = X at *
    generalize ey : b.tdiv g = Y at *
    generalize ed : c.tdiv g = D at *
    have HO := Lib.hid (fun W => spec_hok X Y D W (by omega) (by omega) (by omega) (by omega) (by omega) (by omega))
    have v0 : IntKind.i64.wrap X = X := IntWalk.i64_in _ (by omega)
    have v1 : IntKind.i64.wrap Y = Y := IntWalk.i64_in _ (by omega)
    have v2 : IntKind.i64.wrap D = D := IntWalk.i64_in _ (by omega)
    have g0 : (g == 0) = false := by simp; omega
    have hz : (a == 0) = false ∨ ((a == 0) = true ∧ (b == 0) = false) := by
      by_cases k : a = 0
      · exact .inr ⟨by simp [k], by simp; omega⟩
      · exact .inl (by simpa using k)
    clear h1
    rcases hz with hz | ⟨hz, hz2⟩
    all_goals
      go_enter Tryz.func109, Tryz.ntmps109
      go_wp2_with (go_at_call 89; first | (with_reducible refine (HU.out _).mono ?_; rintro e w1 ⟨rfl, k1, rfl⟩) | (with_reducible refine (HV.out _).mono ?_; rintro e w1 ⟨rfl, k2, rfl⟩) | (with_reducible refine (HW.out _).mono ?_; rintro e w1 ⟨rfl, k3, rfl⟩) | (with_reducible refine (HX.out _).mono ?_; rintro e w1 ⟨rfl, k4, rfl⟩) | (with_reducible refine (HY.out _).mono ?_; rintro e w1 ⟨rfl, k5, rfl⟩))
      go_region
      clear v0 v1 v2 ex ey ed g0 hg hg0 hg1 HX HY HU HV HW
      go_wp2_with fail
      refine (HO.out _).mono ?_
      cases hk : okH X Y D with
      | false =>
        rw [hk] at HS
        have HA := Lib.hid (HZ.out HS.out)
        clear hk HS HZ HT HO
        rintro e w2 ⟨rfl, hb2⟩
        obtain ⟨⟨p0, p1, p2, f0, f1, f2⟩, _, hbw⟩ := boxes3 hb2
        clear hb2
        go_wp2_with fail
        refine bodyPost_ret (v := .tuple #[.agg #[.int .i64 0, .int .i64 0, .int .i64 0], .bool false]) (by simp [results, Tryz.results109, go_sem, p0, p1, p2]) rfl ⟨by rw [HA.out]; rfl, ?_⟩
        exact below_set3 _ _ _ hbw (Nat.le_refl _)
      | true =>
        rw [hk] at HS
        have HA := Lib.hid (HT.out HS.out)
        clear hk HS HZ HT HO
        rintro e w2 ⟨rfl, hb2⟩
        obtain ⟨⟨p0, p1, p2, f0, f1, f2⟩, ⟨q0, q1, q2, _, _, _⟩, hbw⟩ := boxes3 hb2
        clear hb2
        go_wp2_with fail
        refine bodyPost_ret (v := .tuple #[.agg #[.int .i64 X, .int .i64 Y, .int .i64 D], .bool true]) (by simp [results, Tryz.results109, go_sem, p0, p1, p2]) rfl ⟨by rw [HA.out]; rfl, ?_⟩
        exact below_set3 _ _ _ hbw (Nat.le_refl _)
  · rw [ansH_no (hasH_no (by omega))]
    obtain ⟨rfl, rfl⟩ : a = 0 ∧ b = 0 := by omega
    unfold zeroS
    go_enter Tryz.func109, Tryz.ntmps109
    go_wp2_with (go_at_call 89; first | (with_reducible refine (HU.out _).mono ?_; rintro e w1 ⟨rfl, k1, rfl⟩) | (with_reducible refine (HW.out _).mono ?_; rintro e w1 ⟨rfl, k3, rfl⟩))
    refine bodyPost_ret (v := .tuple #[.agg #[.int .i64 0, .int .i64 0, .int .i64 0], .bool false]) (by simp [results, Tryz.results109, go_sem]) rfl ⟨rfl, ?_⟩
    exact below_set3 _ _ _ (below_drew hw _) (Nat.le_refl _)

theorem tdiv_neg_abs (n : Int) (g : Nat) (h : n < 0) : n.tdiv g = -((n.natAbs / g : Nat) : Int) := by
  obtain ⟨m, rfl⟩ : ∃ m : Nat, n = -(m : Int) := ⟨n.natAbs, by omega⟩
  rw [Int.neg_tdiv]
  congr 1
  rw [Int.natAbs_neg]
  rfl
theorem tdiv_pos_abs (n : Int) (g : Nat) (h : ¬ n < 0) : n.tdiv g = ((n.natAbs / g : Nat) : Int) := by
  obtain ⟨m, rfl⟩ : ∃ m : Nat, n = (m : Int) := ⟨n.natAbs, by omega⟩
  rfl
set_option maxHeartbeats 800000 in
theorem div_by (n : Int) (g : Nat) (w : World) (h0 : -9223372036854775807 ≤ n) (h1 : n ≤ 9223372036854775807) (hg : 1 ≤ g) :
    Calls Tryz.prog 157 #[.int .i64 n, .int .u64 g] w fun e w' => e = .returned (.int .i64 (n.tdiv g)) ∧ w' = w := by
  have HM := Lib.hid (fun W => magn n W (by omega) h1)
  have hq : n.natAbs / g ≤ 9223372036854775807 := Nat.le_trans (Nat.div_le_self _ _) (by omega)
  have hqe : (n.natAbs : Int).tdiv (g : Int) = ((n.natAbs / g : Nat) : Int) := rfl
  have hqe2 : (n.natAbs : Int) / (g : Int) = ((n.natAbs / g : Nat) : Int) := rfl
  have g0 : ((g : Int) == 0) = false := by simp; omega
  have g1 : ¬ (g : Int) = 0 := by omega
  by_cases h : n < 0
  · rw [tdiv_neg_abs n g h]
    generalize n.natAbs / g = Z at *
    generalize n.natAbs = m at *
    have v0 : IntKind.u64.wrap (Z : Int) = (Z : Int) := IntWalk.u64_in _ (by omega)
    have v1 : IntKind.i64.wrap (Z : Int) = (Z : Int) := IntWalk.i64_in _ (by omega)
    have v2 : IntKind.i64.wrap (-(Z : Int)) = -(Z : Int) := IntWalk.i64_in _ (by omega)
    go_enter Tryz.func157, Tryz.ntmps157
    go_wp2_with fail
    refine (HM.out _).mono ?_
    rintro e w1 ⟨rfl, rfl⟩
    go_wp2_with fail
    go_ret
    exact ⟨rfl, rfl⟩
  · rw [tdiv_pos_abs n g h]
    generalize n.natAbs / g = Z at *
    generalize n.natAbs = m at *
    have v0 : IntKind.u64.wrap (Z : Int) = (Z : Int) := IntWalk.u64_in _ (by omega)
    have v1 : IntKind.i64.wrap (Z : Int) = (Z : Int) := IntWalk.i64_in _ (by omega)
    go_enter Tryz.func157, Tryz.ntmps157
    go_wp2_with fail
    refine (HM.out _).mono ?_
    rintro e w1 ⟨rfl, rfl⟩
    go_wp2_with fail
    go_ret
    exact ⟨rfl, rfl⟩

set_option maxHeartbeats 3200000 in
theorem impl_hof (a b c : Int) (w : World) (ha : -9223372036854775807 ≤ a) (ha2 : a ≤ 9223372036854775807) (hb : -9223372036854775807 ≤ b) (hb2 : b ≤ 9223372036854775807) (hc : -9223372036854775807 ≤ c) (hc2 : c ≤ 9223372036854775807) :
    Calls Tryz.prog 140 #[.int .i64 a, .int .i64 b, .int .i64 c] w fun e w' => e = .returned (ansH a b c) ∧ Below w.heap.size w w' := by
  have hw := below_box w (.cells #[.int .i64 0, .int .i64 0, .int .i64 0] 104)
  by_cases h1 : a ≠ 0 ∨ b ≠ 0
  · have HX := Lib.hid (fun W => magn a W (by omega) ha2)
    have HY := Lib.hid (fun W => magn b W (by omega) hb2)
    have HZ := Lib.hid (fun W => magn c W (by omega) hc2)
    have HG := Lib.hid (fun W => gcd_mag a.natAbs b.natAbs W (by omega) (by omega))
    have hq : Nat.gcd a.natAbs b.natAbs ≤ 9223372036854775808 := by
      have := gcd_le_max a b 9223372036854775807 ha ha2 hb hb2
      have e : (Int.gcd a b : Int) = ((Nat.gcd a.natAbs b.natAbs : Nat) : Int) := rfl
      omega
    have HK := Lib.hid (fun W => gcd_mag (Nat.gcd a.natAbs b.natAbs) c.natAbs W hq (by omega))
    have hg0 : 1 ≤ gS a b c := gS_posH h1
    have HE := Lib.hid (show gS a b c = Nat.gcd (Nat.gcd a.natAbs b.natAbs) c.natAbs from rfl)
    have HA := Lib.hid (fun W => div_by a (gS a b c) W ha ha2 hg0)
    have HB := Lib.hid (fun W => div_by b (gS a b c) W hb hb2 hg0)
    have HC := Lib.hid (fun W => div_by c (gS a b c) W hc hc2 hg0)
    have hX := tdiv_le a (gS a b c) 9223372036854775807 ha ha2
    have hY := tdiv_le b (gS a b c) 9223372036854775807 hb hb2
    have hD := tdiv_le c (gS a b c) 9223372036854775807 hc hc2
    have HS := Lib.hid (hasH_of (a := a) (b := b) (c := c) h1)
    have HN := Lib.hid (fun h => ansH_no (a := a) (b := b) (c := c) h)
    have HT := Lib.hid (fun h => ansH_yes (a := a) (b := b) (c := c) h)
    rw [← HE.out] at HK
    clear HE
    generalize ansH a b c = A at *
    generalize hasH a b c = Z at *
    generalize gS a b c = g at *
    generalize Nat.gcd a.natAbs b.natAbs = G at *
    generalize a.natAbs = xa at *
    generalize b.natAbs = ya at *
    generalize c.natAbs = da at *
    generalize a.tdiv g = X at *
    generalize b.tdiv g = Y at *
    generalize c.tdiv g = D at *
    have HO := Lib.hid (fun W => impl_hok X Y D W (by omega) (by omega) (by omega) (by omega) (by omega) (by omega))
    have hz : (a == 0) = false ∨ ((a == 0) = true ∧ (b == 0) = false) := by
      by_cases k : a = 0
      · exact .inr ⟨by simp [k], by simp; omega⟩
      · exact .inl (by simpa using k)
    clear h1
    rcases hz with hz | ⟨hz, hz2⟩
    all_goals
      go_enter Tryz.func140, Tryz.ntmps140
      go_wp2_with (first | (go_at_call 73; first | (with_reducible refine (HX.out _).mono ?_; rintro e w1 ⟨rfl, rfl⟩) | (with_reducible refine (HY.out _).mono ?_; rintro e w1 ⟨rfl, rfl⟩) | (with_reducible refine (HZ.out _).mono ?_; rintro e w1 ⟨rfl, rfl⟩)) | (go_at_call 74; first | (with_reducible refine (HG.out _).mono ?_; rintro e w1 ⟨rfl, k1, rfl⟩) | (with_reducible refine (HK.out _).mono ?_; rintro e w1 ⟨rfl, k2, rfl⟩)) | (go_at_call 157; first | (with_reducible refine (HA.out _).mono ?_; rintro e w1 ⟨rfl, rfl⟩) | (with_reducible refine (HB.out _).mono ?_; rintro e w1 ⟨rfl, rfl⟩) | (with_reducible refine (HC.out _).mono ?_; rintro e w1 ⟨rfl, rfl⟩)))
      clear HX HY HZ HG HK HA HB HC
      refine (HO.out _).mono ?_
      cases hk : okH X Y D with
      | false =>
        rw [hk] at HS
        have HA := Lib.hid (HN.out HS.out)
        clear hk HS HN HT HO
        rintro e w2 ⟨rfl, hb2⟩
        obtain ⟨⟨p0, p1, p2, f0, f1, f2⟩, _, hbw⟩ := boxes3 hb2
        clear hb2
        go_wp2_with fail
        refine bodyPost_ret (v := .tuple #[.agg #[.int .i64 0, .int .i64 0, .int .i64 0], .bool false]) (by simp [results, Tryz.results140, go_sem, p0, p1, p2]) rfl ⟨by rw [HA.out]; rfl, ?_⟩
        exact below_set3 _ _ _ hbw (Nat.le_refl _)
      | true =>
        rw [hk] at HS
        have HA := Lib.hid (HT.out HS.out)
        clear hk HS HN HT HO
        rintro e w2 ⟨rfl, hb2⟩
        obtain ⟨⟨p0, p1, p2, f0, f1, f2⟩, ⟨q0, q1, q2, _, _, _⟩, hbw⟩ := boxes3 hb2
        clear hb2
        go_wp2_with fail
        refine bodyPost_ret (v := .tuple #[.agg #[.int .i64 X, .int .i64 Y, .int .i64 D], .bool true]) (by simp [results, Tryz.results140, go_sem, p0, p1, p2]) rfl ⟨by rw [HA.out]; rfl, ?_⟩
        exact below_set3 _ _ _ hbw (Nat.le_refl _)
  · rw [ansH_no (hasH_no (by omega))]
    obtain ⟨rfl, rfl⟩ : a = 0 ∧ b = 0 := by omega
    unfold zeroS
    go_enter Tryz.func140, Tryz.ntmps140
    go_wp2_with fail
    refine bodyPost_ret (v := .tuple #[.agg #[.int .i64 0, .int .i64 0, .int .i64 0], .bool false]) (by simp [results, Tryz.results140, go_sem]) rfl ⟨rfl, ?_⟩
    exact hw

/-- on which side of the border a spot lies -/
def sideV (a b c x y d : Int) : Int := if a * x + b * y < c * d then -1 else if c * d < a * x + b * y then 1 else 0
theorem sideV_lt {a b c x y d : Int} (h : a * x + b * y < c * d) : sideV a b c x y d = -1 := if_pos h
theorem sideV_gt {a b c x y d : Int} (h : c * d < a * x + b * y) : sideV a b c x y d = 1 := by unfold sideV; rw [if_neg (by omega), if_pos h]
theorem sideV_eq {a b c x y d : Int} (h : a * x + b * y = c * d) : sideV a b c x y d = 0 := by unfold sideV; rw [if_neg (by omega), if_neg (by omega)]
/-- the products of valid ones are small -/
theorem side_in {a b c x y d : Int} (h : okH a b c = true) (k : okS x y d = true) : (-250000000000000000 ≤ a * x ∧ a * x ≤ 250000000000000000) ∧ (-250000000000000000 ≤ b * y ∧ b * y ≤ 250000000000000000) ∧ (-500000000000000000 ≤ c * d ∧ c * d ≤ 500000000000000000) := by
  obtain ⟨a1, a2, b1, b2, _, c1, c2, _⟩ := (okH_iff _ _ _).1 h
  obtain ⟨d1, d2, x1, x2, y1, y2, _⟩ := (okS_iff _ _ _).1 k
  have m1 := mul_in a x 50000 5000000000000 a1 a2 (by omega) (by omega)
  have m2 := mul_in b y 50000 5000000000000 b1 b2 (by omega) (by omega)
  have m3 := mul_in c d 100000000 5000000000 c1 c2 (by omega) (by omega)
  exact ⟨by omega, by omega, by omega⟩

set_option maxHeartbeats 1600000 in
theorem impl_side0 (a b c x y d : Int) (w : World) (h : okH a b c = true) (k : okS x y d = true) :
    Calls Tryz.prog 122 #[.agg #[.int .i64 a, .int .i64 b, .int .i64 c], .agg #[.int .i64 x, .int .i64 y, .int .i64 d]] w fun e w' => e = .returned (.int .i64 (sideV a b c x y d)) ∧ Below w.heap.size w w' := by
  have hw := below_bx2 (below_box w (.cells #[.int .i64 a, .int .i64 b, .int .i64 c] 104)) (.cells #[.int .i64 x, .int .i64 y, .int .i64 d] 45)
  obtain ⟨⟨p0, p1⟩, ⟨q0, q1⟩, r0, r1⟩ := side_in h k
  clear h k
  have hk : a * x + b * y < c * d ∨ a * x + b * y = c * d ∨ c * d < a * x + b * y := by omega
  rcases hk with hk | hk | hk
  all_goals
    first | rw [sideV_lt hk] | rw [sideV_eq hk] | rw [sideV_gt hk]
    generalize e1 : a * x = P at *
    generalize e2 : b * y = Q at *
    generalize e3 : c * d = R at *
    go_enter Tryz.func122, Tryz.ntmps122
    go_wp2_with fail
    go_quiet (fail)
    go_wp2_with fail
    go_ret
    exact ⟨rfl, below_drew hw _⟩

/-- what HoldsAt answers -/
def holdH (a b c x y d : Int) : Bool := okH a b c && okS x y d && decide (sideV a b c x y d ≤ 0)
theorem sideV_cases (a b c x y d : Int) : sideV a b c x y d = -1 ∨ sideV a b c x y d = 0 ∨ sideV a b c x y d = 1 := by
  unfold sideV
  split
  · exact .inl rfl
  · split
    · exact .inr (.inr rfl)
    · exact .inr (.inl rfl)

set_option maxHeartbeats 1600000 in
theorem impl_hold (a b c x y d : Int) (w : World) (ha : -9223372036854775808 ≤ a) (ha2 : a ≤ 9223372036854775807) (hb : -9223372036854775808 ≤ b) (hb2 : b ≤ 9223372036854775807) (hc : -9223372036854775808 ≤ c) (hc2 : c ≤ 9223372036854775807) (hx : -9223372036854775808 ≤ x) (hx2 : x ≤ 9223372036854775807) (hy : -9223372036854775808 ≤ y) (hy2 : y ≤ 9223372036854775807) (hd : -9223372036854775808 ≤ d) (hd2 : d ≤ 9223372036854775807) :
    Calls Tryz.prog 67 #[.agg #[.int .i64 a, .int .i64 b, .int .i64 c], .agg #[.int .i64 x, .int .i64 y, .int .i64 d]] w fun e w' => e = .returned (.bool (holdH a b c x y d)) ∧ Below w.heap.size w w' := by
  have HO := Lib.hid (fun W => impl_hok a b c W ha ha2 hb hb2 hc hc2)
  have HP := Lib.hid (fun W => impl_sok x y d W hx hx2 hy hy2 hd hd2)
  unfold holdH
  cases hk : okH a b c with
  | false =>
    rw [hk] at HO
    rw [Bool.false_and, Bool.false_and]
    clear hk
    go_enter Tryz.func67, Tryz.ntmps67
    go_wp2_with fail
    refine (HO.out _).mono ?_
    rintro e w1 ⟨rfl, bl1⟩
    obtain ⟨_, _, hbw⟩ := sboxes bl1
    clear bl1
    go_wp2_with fail
    go_ret
    exact ⟨rfl, hbw⟩
  | true =>
    cases hl : okS x y d with
    | false =>
      rw [hk] at HO
      rw [hl] at HP
      rw [Bool.true_and, Bool.false_and]
      clear hk hl
      go_enter Tryz.func67, Tryz.ntmps67
      go_wp2_with fail
      refine (HO.out _).mono ?_
      rintro e w1 ⟨rfl, bl1⟩
      obtain ⟨_, ⟨p0, p1, p2, _, _, _⟩, _⟩ := sboxes bl1
      go_wp2_with fail
      refine (HP.out _).mono ?_
      rintro e w2 ⟨rfl, bl2⟩
      obtain ⟨_, _, hbw⟩ := sboxes (below_to bl1 bl2)
      clear bl1 bl2 p0 p1 p2
      go_wp2_with fail
      go_ret
      exact ⟨rfl, hbw⟩
    | true =>
      have HS := Lib.hid (fun W => impl_side0 a b c x y d W hk hl)
      rw [hk] at HO
      rw [hl] at HP
      rw [Bool.true_and, Bool.true_and]
      have hr := sideV_cases a b c x y d
      clear hk hl
      generalize sideV a b c x y d = r at *
      go_enter Tryz.func67, Tryz.ntmps67
      go_wp2_with fail
      refine (HO.out _).mono ?_
      rintro e w1 ⟨rfl, bl1⟩
      obtain ⟨_, ⟨p0, p1, p2, _, _, _⟩, _⟩ := sboxes bl1
      go_wp2_with fail
      refine (HP.out _).mono ?_
      rintro e w2 ⟨rfl, bl2⟩
      clear p0 p1 p2
      obtain ⟨⟨q0, q1, q2, _, _, _⟩, ⟨p0, p1, p2, _, _, _⟩, hbw⟩ := sboxes (below_to bl1 bl2)
      clear bl1 bl2
      go_wp2_with fail
      refine (HS.out _).mono ?_
      rintro e w3 ⟨rfl, bl3⟩
      clear HO HP HS
      rcases hr with rfl | rfl | rfl
      all_goals
        go_wp2_with fail
        go_ret
        exact ⟨rfl, below_to hbw bl3⟩

end Go.Proofs.YtibkmhmeoelpdaaGreat
