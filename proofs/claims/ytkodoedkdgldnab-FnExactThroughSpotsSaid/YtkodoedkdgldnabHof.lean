/- The contracts of both HalfOf functions over the translation, away from the least int. -/
import Derived.Test.YtkodoedkdgldnabHok
import Derived.Test.YtkodoedkdgldnabShf
namespace Go.Proofs.Ytkodoedkdgldnab
open Go.RowKit

/-- there is a valid half plane a x + b y <= c -/
def hasH (a b c : Int) : Bool := decide (a ≠ 0 ∨ b ≠ 0) && okH (a.tdiv (gS a b c)) (b.tdiv (gS a b c)) (c.tdiv (gS a b c))
theorem hasH_of {a b c : Int} (h : a ≠ 0 ∨ b ≠ 0) : hasH a b c = okH (a.tdiv (gS a b c)) (b.tdiv (gS a b c)) (c.tdiv (gS a b c)) := by
  unfold hasH; rw [decide_eq_true h, Bool.true_and]
theorem hasH_no {a b c : Int} (h : a = 0 ∧ b = 0) : hasH a b c = false := by
  unfold hasH; rw [decide_eq_false (by omega), Bool.false_and]
/-- what HalfOf answers -/
def ansH (a b c : Int) : Value := .tuple #[.agg #[.int .i64 (kp (hasH a b c) (a.tdiv (gS a b c))), .int .i64 (kp (hasH a b c) (b.tdiv (gS a b c))), .int .i64 (kp (hasH a b c) (c.tdiv (gS a b c)))], .bool (hasH a b c)]
theorem ansH_ex (a b c : Int) : ∃ X Y D : Int, ∃ B : Bool, ansH a b c = .tuple #[.agg #[.int .i64 X, .int .i64 Y, .int .i64 D], .bool B] := ⟨_, _, _, _, rfl⟩
theorem ansH_no {a b c : Int} (h : hasH a b c = false) : ansH a b c = zeroS := by unfold ansH; rw [h]; rfl
theorem ansH_yes {a b c : Int} (h : hasH a b c = true) : ansH a b c = spotS (a.tdiv (gS a b c)) (b.tdiv (gS a b c)) (c.tdiv (gS a b c)) := by unfold ansH; rw [h]; rfl
theorem gS_posH {a b c : Int} (h : a ≠ 0 ∨ b ≠ 0) : 1 ≤ gS a b c := by
  unfold gS
  have : 0 < Int.gcd a b := by
    rcases h with h | h
    · exact Nat.gcd_pos_of_pos_left _ (by omega)
    · exact Nat.gcd_pos_of_pos_right _ (by omega)
  exact Nat.gcd_pos_of_pos_left _ (by omega)
theorem gS_leH {a b c : Int} (h : a ≠ 0 ∨ b ≠ 0) (ha : -9223372036854775807 ≤ a) (ha2 : a ≤ 9223372036854775807) (hb : -9223372036854775807 ≤ b) (hb2 : b ≤ 9223372036854775807) : (gS a b c : Int) ≤ 9223372036854775807 := by
  have h1 := gcd_le_max a b 9223372036854775807 ha ha2 hb hb2
  have h2 : 0 < Int.gcd a b := by
    rcases h with h | h
    · exact Nat.gcd_pos_of_pos_left _ (by omega)
    · exact Nat.gcd_pos_of_pos_right _ (by omega)
  have h3 := Nat.gcd_le_left (m := (Int.gcd a b : Int).natAbs) c.natAbs (by omega)
  have : gS a b c = Nat.gcd (Int.gcd a b : Int).natAbs c.natAbs := rfl
  omega
theorem gcd_1 (a : Int) (ha : -9223372036854775807 ≤ a) : gcdR a 1 = 1 := by
  rw [gcdR_of a 1 (by omega) (by omega)]
  simp

set_option maxHeartbeats 3200000 in
theorem spec_hof (a b c : Int) (w : World) (ha : -9223372036854775807 ≤ a) (ha2 : a ≤ 9223372036854775807) (hb : -9223372036854775807 ≤ b) (hb2 : b ≤ 9223372036854775807) (hc : -9223372036854775807 ≤ c) (hc2 : c ≤ 9223372036854775807) :
    Calls Try.prog 9 #[.int .i64 a, .int .i64 b, .int .i64 c] w fun e w' => e = .returned (ansH a b c) ∧ Below w.heap.size w w' := by
  have hw := below_box w (.cells #[.int .i64 0, .int .i64 0, .int .i64 0] 25)
  have H0 := has3_new w (.int .i64 0) (.int .i64 0) (.int .i64 0) 25
  have HU := Lib.hid (fun W => spec_gcd a 1 W (by omega) ha2 (by omega) (by omega))
  rw [gcd_1 a ha] at HU
  have HV := Lib.hid (fun W => spec_gcd b 1 W (by omega) hb2 (by omega) (by omega))
  rw [gcd_1 b hb] at HV
  have HW := Lib.hid (fun W => spec_gcd c 1 W (by omega) hc2 (by omega) (by omega))
  rw [gcd_1 c hc] at HW
  by_cases h1 : a ≠ 0 ∨ b ≠ 0
  · have HX := Lib.hid (fun W => spec_gcd a b W (by omega) ha2 (by omega) hb2)
    rw [gcdR_of a b (by omega) (by omega)] at HX
    have hg := gcd_le_max a b 9223372036854775807 ha ha2 hb hb2
    have HY := Lib.hid (fun W => spec_gcd (Int.gcd a b) c W (by omega) (by omega) (by omega) hc2)
    rw [gcdR_of (Int.gcd a b) c (by omega) (by omega)] at HY
    have hg0 : (1 : Int) ≤ (gS a b c : Int) := by have := gS_posH (c := c) h1; omega
    have hg1 := gS_leH (c := c) h1 ha ha2 hb hb2
    have hX := tdiv_le a (gS a b c) 9223372036854775807 ha ha2
    have hY := tdiv_le b (gS a b c) 9223372036854775807 hb hb2
    have hD := tdiv_le c (gS a b c) 9223372036854775807 hc hc2
    have HS := Lib.hid (hasH_of (a := a) (b := b) (c := c) h1)
    have HZ := Lib.hid (fun h => ansH_no (a := a) (b := b) (c := c) h)
    have HT := Lib.hid (fun h => ansH_yes (a := a) (b := b) (c := c) h)
    have HG := Lib.hid (show (Int.gcd (Int.gcd a b) c : Int) = (gS a b c : Int) from rfl)
    rw [HG.out] at HY
    clear HG
    generalize ansH a b c = A at *
    generalize hasH a b c = B at *
    generalize ((gS a b c : Nat) : Int) = g at *
    generalize ((Int.gcd a b : Nat) : Int) = G at *
    generalize ex : a.tdiv g = X at *
    generalize ey : b.tdiv g = Y at *
    generalize ed : c.tdiv g = D at *
    have HO := Lib.hid (fun W => spec_hok X Y D W (by omega) (by omega) (by omega) (by omega) (by omega) (by omega))
    have v0 : IntKind.i64.wrap X = X := IntWalk.i64_in _ (by omega)
    have v1 : IntKind.i64.wrap Y = Y := IntWalk.i64_in _ (by omega)
    have v2 : IntKind.i64.wrap D = D := IntWalk.i64_in _ (by omega)
    have g0 : (g == 0) = false := by simp; omega
    have hz : (a == 0) = false ∨ ((a == 0) = true ∧ (b == 0) = false) := by
      by_cases k : a = 0
      · exact .inr ⟨by simp [k], by simp; omega⟩
      · exact .inl (by simpa using k)
    clear h1
    rcases hz with hz | ⟨hz, hz2⟩
    all_goals
      go_enter Try.func9, Try.ntmps9
      go_wp2_with (go_at_call 13; first | (with_reducible refine (HU.out _).mono ?_; rintro e w1 ⟨rfl, k1, rfl⟩) | (with_reducible refine (HV.out _).mono ?_; rintro e w1 ⟨rfl, k2, rfl⟩) | (with_reducible refine (HW.out _).mono ?_; rintro e w1 ⟨rfl, k3, rfl⟩) | (with_reducible refine (HX.out _).mono ?_; rintro e w1 ⟨rfl, k4, rfl⟩) | (with_reducible refine (HY.out _).mono ?_; rintro e w1 ⟨rfl, k5, rfl⟩))
      go_region
      clear v0 v1 v2 ex ey ed g0 hg hg0 hg1 HX HY HU HV HW
      go_wp2_with fail
      refine (HO.out _).mono ?_
      cases hk : okH X Y D with
      | false =>
        rw [hk] at HS
        have HA := Lib.hid (HZ.out HS.out)
        clear hk HS HZ HT HO
        rintro e w2 ⟨rfl, hb2⟩
        obtain ⟨⟨p0, p1, p2, f0, f1, f2⟩, _, hbw⟩ := boxes3 hb2
        clear hb2
        go_wp2_with fail
        refine bodyPost_ret (v := .tuple #[.agg #[.int .i64 0, .int .i64 0, .int .i64 0], .bool false]) (by simp [results, Try.results9, go_sem, p0, p1, p2]) rfl ⟨by rw [HA.out]; rfl, ?_⟩
        exact below_set3 _ _ _ hbw (Nat.le_refl _)
      | true =>
        rw [hk] at HS
        have HA := Lib.hid (HT.out HS.out)
        clear hk HS HZ HT HO
        rintro e w2 ⟨rfl, hb2⟩
        obtain ⟨⟨p0, p1, p2, f0, f1, f2⟩, ⟨q0, q1, q2, _, _, _⟩, hbw⟩ := boxes3 hb2
        clear hb2
        go_wp2_with fail
        refine bodyPost_ret (v := .tuple #[.agg #[.int .i64 X, .int .i64 Y, .int .i64 D], .bool true]) (by simp [results, Try.results9, go_sem, p0, p1, p2]) rfl ⟨by rw [HA.out]; rfl, ?_⟩
        exact below_set3 _ _ _ hbw (Nat.le_refl _)
  · rw [ansH_no (hasH_no (by omega))]
    obtain ⟨rfl, rfl⟩ : a = 0 ∧ b = 0 := by omega
    unfold zeroS
    go_enter Try.func9, Try.ntmps9
    go_wp2_with (go_at_call 13; first | (with_reducible refine (HU.out _).mono ?_; rintro e w1 ⟨rfl, k1, rfl⟩) | (with_reducible refine (HW.out _).mono ?_; rintro e w1 ⟨rfl, k3, rfl⟩))
    refine bodyPost_ret (v := .tuple #[.agg #[.int .i64 0, .int .i64 0, .int .i64 0], .bool false]) (by simp [results, Try.results9, go_sem]) rfl ⟨rfl, ?_⟩
    exact below_set3 _ _ _ (below_drew hw _) (Nat.le_refl _)

theorem tdiv_neg_abs (n : Int) (g : Nat) (h : n < 0) : n.tdiv g = -((n.natAbs / g : Nat) : Int) := by
  obtain ⟨m, rfl⟩ : ∃ m : Nat, n = -(m : Int) := ⟨n.natAbs, by omega⟩
  rw [Int.neg_tdiv]
  congr 1
  rw [Int.natAbs_neg]
  rfl
theorem tdiv_pos_abs (n : Int) (g : Nat) (h : ¬ n < 0) : n.tdiv g = ((n.natAbs / g : Nat) : Int) := by
  obtain ⟨m, rfl⟩ : ∃ m : Nat, n = (m : Int) := ⟨n.natAbs, by omega⟩
  rfl
set_option maxHeartbeats 800000 in
theorem div_by (n : Int) (g : Nat) (w : World) (h0 : -9223372036854775807 ≤ n) (h1 : n ≤ 9223372036854775807) (hg : 1 ≤ g) :
    Calls Try.prog 18 #[.int .i64 n, .int .u64 g] w fun e w' => e = .returned (.int .i64 (n.tdiv g)) ∧ w' = w := by
  have HM := Lib.hid (fun W => magn n W (by omega) h1)
  have hq : n.natAbs / g ≤ 9223372036854775807 := Nat.le_trans (Nat.div_le_self _ _) (by omega)
  have hqe : (n.natAbs : Int).tdiv (g : Int) = ((n.natAbs / g : Nat) : Int) := rfl
  have hqe2 : (n.natAbs : Int) / (g : Int) = ((n.natAbs / g : Nat) : Int) := rfl
  have g0 : ((g : Int) == 0) = false := by simp; omega
  have g1 : ¬ (g : Int) = 0 := by omega
  by_cases h : n < 0
  · rw [tdiv_neg_abs n g h]
    generalize n.natAbs / g = Z at *
    generalize n.natAbs = m at *
    have v0 : IntKind.u64.wrap (Z : Int) = (Z : Int) := IntWalk.u64_in _ (by omega)
    have v1 : IntKind.i64.wrap (Z : Int) = (Z : Int) := IntWalk.i64_in _ (by omega)
    have v2 : IntKind.i64.wrap (-(Z : Int)) = -(Z : Int) := IntWalk.i64_in _ (by omega)
    go_enter Try.func18, Try.ntmps18
    go_wp2_with fail
    refine (HM.out _).mono ?_
    rintro e w1 ⟨rfl, rfl⟩
    go_wp2_with fail
    go_ret
    exact ⟨rfl, rfl⟩
  · rw [tdiv_pos_abs n g h]
    generalize n.natAbs / g = Z at *
    generalize n.natAbs = m at *
    have v0 : IntKind.u64.wrap (Z : Int) = (Z : Int) := IntWalk.u64_in _ (by omega)
    have v1 : IntKind.i64.wrap (Z : Int) = (Z : Int) := IntWalk.i64_in _ (by omega)
    go_enter Try.func18, Try.ntmps18
    go_wp2_with fail
    refine (HM.out _).mono ?_
    rintro e w1 ⟨rfl, rfl⟩
    go_wp2_with fail
    go_ret
    exact ⟨rfl, rfl⟩

set_option maxHeartbeats 3200000 in
theorem impl_hof (a b c : Int) (w : World) (ha : -9223372036854775807 ≤ a) (ha2 : a ≤ 9223372036854775807) (hb : -9223372036854775807 ≤ b) (hb2 : b ≤ 9223372036854775807) (hc : -9223372036854775807 ≤ c) (hc2 : c ≤ 9223372036854775807) :
    Calls Try.prog 11 #[.int .i64 a, .int .i64 b, .int .i64 c] w fun e w' => e = .returned (ansH a b c) ∧ Below w.heap.size w w' := by
  have hw := below_box w (.cells #[.int .i64 0, .int .i64 0, .int .i64 0] 25)
  by_cases h1 : a ≠ 0 ∨ b ≠ 0
  · have HX := Lib.hid (fun W => magn a W (by omega) ha2)
    have HY := Lib.hid (fun W => magn b W (by omega) hb2)
    have HZ := Lib.hid (fun W => magn c W (by omega) hc2)
    have HG := Lib.hid (fun W => gcd_mag a.natAbs b.natAbs W (by omega) (by omega))
    have hq : Nat.gcd a.natAbs b.natAbs ≤ 9223372036854775808 := by
      have := gcd_le_max a b 9223372036854775807 ha ha2 hb hb2
      have e : (Int.gcd a b : Int) = ((Nat.gcd a.natAbs b.natAbs : Nat) : Int) := rfl
      omega
    have HK := Lib.hid (fun W => gcd_mag (Nat.gcd a.natAbs b.natAbs) c.natAbs W hq (by omega))
    have hg0 : 1 ≤ gS a b c := gS_posH h1
    have HE := Lib.hid (show gS a b c = Nat.gcd (Nat.gcd a.natAbs b.natAbs) c.natAbs from rfl)
    have HA := Lib.hid (fun W => div_by a (gS a b c) W ha ha2 hg0)
    have HB := Lib.hid (fun W => div_by b (gS a b c) W hb hb2 hg0)
    have HC := Lib.hid (fun W => div_by c (gS a b c) W hc hc2 hg0)
    have hX := tdiv_le a (gS a b c) 9223372036854775807 ha ha2
    have hY := tdiv_le b (gS a b c) 9223372036854775807 hb hb2
    have hD := tdiv_le c (gS a b c) 9223372036854775807 hc hc2
    have HS := Lib.hid (hasH_of (a := a) (b := b) (c := c) h1)
    have HN := Lib.hid (fun h => ansH_no (a := a) (b := b) (c := c) h)
    have HT := Lib.hid (fun h => ansH_yes (a := a) (b := b) (c := c) h)
    rw [← HE.out] at HK
    clear HE
    generalize ansH a b c = A at *
    generalize hasH a b c = Z at *
    generalize gS a b c = g at *
    generalize Nat.gcd a.natAbs b.natAbs = G at *
    generalize a.natAbs = xa at *
    generalize b.natAbs = ya at *
    generalize c.natAbs = da at *
    generalize a.tdiv g = X at *
    generalize b.tdiv g = Y at *
    generalize c.tdiv g = D at *
    have HO := Lib.hid (fun W => impl_hok X Y D W (by omega) (by omega) (by omega) (by omega) (by omega) (by omega))
    have hz : (a == 0) = false ∨ ((a == 0) = true ∧ (b == 0) = false) := by
      by_cases k : a = 0
      · exact .inr ⟨by simp [k], by simp; omega⟩
      · exact .inl (by simpa using k)
    clear h1
    rcases hz with hz | ⟨hz, hz2⟩
    all_goals
      go_enter Try.func11, Try.ntmps11
      go_wp2_with (first | (go_at_call 17; first | (with_reducible refine (HX.out _).mono ?_; rintro e w1 ⟨rfl, rfl⟩) | (with_reducible refine (HY.out _).mono ?_; rintro e w1 ⟨rfl, rfl⟩) | (with_reducible refine (HZ.out _).mono ?_; rintro e w1 ⟨rfl, rfl⟩)) | (go_at_call 16; first | (with_reducible refine (HG.out _).mono ?_; rintro e w1 ⟨rfl, k1, rfl⟩) | (with_reducible refine (HK.out _).mono ?_; rintro e w1 ⟨rfl, k2, rfl⟩)) | (go_at_call 18; first | (with_reducible refine (HA.out _).mono ?_; rintro e w1 ⟨rfl, rfl⟩) | (with_reducible refine (HB.out _).mono ?_; rintro e w1 ⟨rfl, rfl⟩) | (with_reducible refine (HC.out _).mono ?_; rintro e w1 ⟨rfl, rfl⟩)))
      clear HX HY HZ HG HK HA HB HC
      refine (HO.out _).mono ?_
      cases hk : okH X Y D with
      | false =>
        rw [hk] at HS
        have HA := Lib.hid (HN.out HS.out)
        clear hk HS HN HT HO
        rintro e w2 ⟨rfl, hb2⟩
        obtain ⟨⟨p0, p1, p2, f0, f1, f2⟩, _, hbw⟩ := boxes3 hb2
        clear hb2
        go_wp2_with fail
        refine bodyPost_ret (v := .tuple #[.agg #[.int .i64 0, .int .i64 0, .int .i64 0], .bool false]) (by simp [results, Try.results11, go_sem, p0, p1, p2]) rfl ⟨by rw [HA.out]; rfl, ?_⟩
        exact below_set3 _ _ _ hbw (Nat.le_refl _)
      | true =>
        rw [hk] at HS
        have HA := Lib.hid (HT.out HS.out)
        clear hk HS HN HT HO
        rintro e w2 ⟨rfl, hb2⟩
        obtain ⟨⟨p0, p1, p2, f0, f1, f2⟩, ⟨q0, q1, q2, _, _, _⟩, hbw⟩ := boxes3 hb2
        clear hb2
        go_wp2_with fail
        refine bodyPost_ret (v := .tuple #[.agg #[.int .i64 X, .int .i64 Y, .int .i64 D], .bool true]) (by simp [results, Try.results11, go_sem, p0, p1, p2]) rfl ⟨by rw [HA.out]; rfl, ?_⟩
        exact below_set3 _ _ _ hbw (Nat.le_refl _)
  · rw [ansH_no (hasH_no (by omega))]
    obtain ⟨rfl, rfl⟩ : a = 0 ∧ b = 0 := by omega
    unfold zeroS
    go_enter Try.func11, Try.ntmps11
    go_wp2_with fail
    refine bodyPost_ret (v := .tuple #[.agg #[.int .i64 0, .int .i64 0, .int .i64 0], .bool false]) (by simp [results, Try.results11, go_sem]) rfl ⟨rfl, ?_⟩
    exact hw

end Go.Proofs.Ytkodoedkdgldnab
