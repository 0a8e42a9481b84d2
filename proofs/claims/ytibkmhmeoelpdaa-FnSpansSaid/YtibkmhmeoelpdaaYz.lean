/- RatioOf of any fraction with a positive divisor, over the translation. The program's sum of two fractions, over the translation. The sum of two fractions of the program and of the model, over the translation. The model's sum of two fractions, in full, over the translation. -/
import Derived.Test.YtibkmhmeoelpdaaCq
import Derived.Lib.Mul64
import Derived.Laws.Bits64b
import Derived.Test.YtibkmhmeoelpdaaEz
namespace Go.Proofs.Ytibkmhmeoelpdaa
open Go.RowKit
open Go.RowKit Go.Shelf

set_option maxHeartbeats 1600000 in
theorem impl_ofn (n d : Int) (T B : Nat) (w : World) (hn : -9223372036854775808 ≤ n) (hn2 : n ≤ 9223372036854775807) (hd : 1 ≤ d) (hd2 : d ≤ 9223372036854775807) (h : ¬ (T ≤ 1000000000000000000 ∧ B ≤ 1000000000000000)) (hT : topR n d = T) (hB : botR n d = B) :
    Calls Try.prog 33 #[.int .i64 n, .int .i64 d] w fun e w' => e = .returned (.agg #[.int .i64 0, .int .i64 0]) ∧ Below w.heap.size w w' := by
  have hd0 : (d == 0) = false := eq_z (by omega)
  have hg : 0 < n.natAbs.gcd d.natAbs := Nat.gcd_pos_of_pos_right _ (by omega)
  have HT := Lib.hid (show n.natAbs / n.natAbs.gcd d.natAbs = T from hT)
  have HB := Lib.hid (show d.natAbs / n.natAbs.gcd d.natAbs = B from hB)
  have hp : n.natAbs ≤ 9223372036854775808 := by omega
  have hq : d.natAbs ≤ 9223372036854775808 := by omega
  have HM := Lib.hid (fun W => magn n W hn hn2)
  have HK := Lib.hid (fun W => magn d W (by omega) hd2)
  clear hT hB
  generalize n.natAbs = p at *
  generalize d.natAbs = q at *
  have HG := Lib.hid (fun W => gcd_mag p q W hp hq)
  generalize p.gcd q = g at *
  have hTp : T ≤ 9223372036854775808 := by rw [← HT.out]; exact Nat.le_trans (Nat.div_le_self _ _) hp
  have hBq : B ≤ 9223372036854775808 := by rw [← HB.out]; exact Nat.le_trans (Nat.div_le_self _ _) hq
  have HP := Lib.hid (show (p : Int) / (g : Int) = (T : Int) by rw [← HT.out]; rfl)
  have HQ := Lib.hid (show (q : Int) / (g : Int) = (B : Int) by rw [← HB.out]; rfl)
  clear HT HB
  go_enter Try.func33, Try.ntmps33
  go_wp2_with fail
  refine (HM.out _).mono ?_
  rintro e w1 ⟨rfl, rfl⟩
  go_wp2_with fail
  refine (HK.out _).mono ?_
  rintro e w1 ⟨rfl, rfl⟩
  go_wp2_with fail
  refine (HG.out _).mono ?_
  rintro e w1 ⟨rfl, k, rfl⟩
  have hg2 : (0 : Int) < (g : Int) := by omega
  go_wp2_with fail
  go_quiet (fail)
  rw [HP.out, HQ.out, IntWalk.u64_in (T : Int) ⟨by omega, by omega⟩, IntWalk.u64_in (B : Int) ⟨by omega, by omega⟩]
  clear HP HQ HM HK HG hg hg2
  by_cases h1 : T ≤ 1000000000000000000
  · have h2 : ¬ B ≤ 1000000000000000 := fun k => h ⟨h1, k⟩
    have c1 : ¬ ((1000000000000000000 : Int) < (T : Int)) := by omega
    have c2 : (1000000000000000 : Int) < (B : Int) := by omega
    clear h
    go_wp2_with fail
    refine bodyPost_ret (v := .agg #[.int .i64 0, .int .i64 0]) (by simp [results, Try.results33, go_sem]) rfl ⟨rfl, ?_⟩
    exact ((below_drew (below_box _ _) _).setCell (by simp) _).setCell (by simp) _
  · have c1 : (1000000000000000000 : Int) < (T : Int) := by omega
    clear h
    go_wp2_with fail
    refine bodyPost_ret (v := .agg #[.int .i64 0, .int .i64 0]) (by simp [results, Try.results33, go_sem]) rfl ⟨rfl, ?_⟩
    exact ((below_drew (below_box _ _) _).setCell (by simp) _).setCell (by simp) _
/-- RatioOf of n and d, where d is positive -/
def ofN (n d : Int) : Int := if hasR n d = true then sgnR n d else 0
def ofD (n d : Int) : Int := if hasR n d = true then (botR n d : Int) else 0
theorem impl_ofA (n d : Int) (w : World) (hn : -9223372036854775808 ≤ n) (hn2 : n ≤ 9223372036854775807) (hd : 1 ≤ d) (hd2 : d ≤ 9223372036854775807) :
    Calls Try.prog 33 #[.int .i64 n, .int .i64 d] w fun e w' => e = .returned (.agg #[.int .i64 (ofN n d), .int .i64 (ofD n d)]) ∧ Below w.heap.size w w' := by
  unfold ofN ofD
  cases h : hasR n d with
  | true => exact impl_of n d _ _ _ w hn hn2 (by omega) hd2 h rfl rfl rfl
  | false =>
    refine impl_ofn n d _ _ w hn hn2 hd hd2 ?_ rfl rfl
    intro k
    rw [(hasR_iff n d).2 ⟨by omega, k.1, k.2⟩] at h
    cases h
theorem div_gcd_le {n : Int} {g : Nat} (_hg : 0 < g) (a : -9223372036854775807 ≤ n) (b : n ≤ 9223372036854775807) : -9223372036854775807 ≤ n.tdiv g ∧ n.tdiv g ≤ 9223372036854775807 := by
  have h := Int.natAbs_tdiv n g
  have k : n.natAbs / (g : Int).natAbs ≤ n.natAbs := Nat.div_le_self _ _
  have e : (n.tdiv g).natAbs ≤ n.natAbs := by rw [h]; exact k
  omega
theorem of_num {n d : Int} (hd : 1 ≤ d) : sgnR n d = n.tdiv (Int.gcd n d) ∧ (botR n d : Int) = d.tdiv (Int.gcd n d) := by
  refine ⟨?_, ?_⟩
  · unfold sgnR topR
    have hd' : decide (d < 0) = false := decide_eq_false (by omega)
    rw [hd']
    show (if (decide (n < 0) != false) = true then -((n.natAbs / Int.gcd n d : Nat) : Int) else ((n.natAbs / Int.gcd n d : Nat) : Int)) = n.tdiv (Int.gcd n d)
    generalize Int.gcd n d = g
    by_cases h : n < 0
    · rw [decide_eq_true h]
      have e : n = -(n.natAbs : Int) := by omega
      conv => rhs; rw [e]
      rw [Int.neg_tdiv, ← Int.ofNat_tdiv]
      simp
    · rw [decide_eq_false h]
      have e : n = (n.natAbs : Int) := by omega
      conv => rhs; rw [e]
      rw [← Int.ofNat_tdiv]
      simp
  · show ((d.natAbs / Int.gcd n d : Nat) : Int) = d.tdiv (Int.gcd n d)
    generalize Int.gcd n d = g
    have e : d = (d.natAbs : Int) := by omega
    conv => rhs; rw [e]
    rw [← Int.ofNat_tdiv]
theorem of_has {n d : Int} (hd : 1 ≤ d) : okR (n.tdiv (Int.gcd n d)) (d.tdiv (Int.gcd n d)) = hasR n d := by
  obtain ⟨e1, e2⟩ := of_num (n := n) hd
  rw [← e1, ← e2]
  cases h : hasR n d with
  | true => exact okR_of n d h
  | false =>
    cases k : okR (sgnR n d) (botR n d) with
    | false => rfl
    | true =>
      rw [okR_iff] at k
      have ht : topR n d ≤ 1000000000000000000 := by
        have := k.2.2.1
        have := k.2.2.2.1
        unfold sgnR at *
        split at * <;> omega
      rw [(hasR_iff n d).2 ⟨by omega, ht, by omega⟩] at h
      cases h
set_option maxHeartbeats 1600000 in
theorem spec_ofA (n d : Int) (w : World) (hn : -9223372036854775807 ≤ n) (hn2 : n ≤ 9223372036854775807) (hd : 1 ≤ d) (hd2 : d ≤ 9223372036854775807) :
    Calls Try.prog 39 #[.int .i64 n, .int .i64 d] w fun e w' => e = .returned (.agg #[.int .i64 (ofN n d), .int .i64 (ofD n d)]) ∧ Below w.heap.size w w' := by
  have hg : 0 < Int.gcd n d := Nat.gcd_pos_of_pos_right _ (by omega)
  have HH := Lib.hid (of_has (n := n) hd)
  have HV := Lib.hid (of_num (n := n) hd)
  have HG := Lib.hid (spec_gcd n d · (by omega) (by omega) (by omega) (by omega))
  rw [gcdR_of n d (by omega) (by omega)] at HG
  have hg2 : Int.gcd n d ≤ 9223372036854775807 := Nat.le_trans (Nat.gcd_le_right n.natAbs (by omega : 0 < d.natAbs)) (by omega)
  obtain ⟨lN, uN⟩ := div_gcd_le hg hn hn2
  obtain ⟨lD, uD⟩ := div_gcd_le hg (show -9223372036854775807 ≤ d by omega) hd2
  have HD1 := Lib.hid (Int.tdiv_eq_ediv_of_dvd (Int.gcd_dvd_left n d))
  have HD2 := Lib.hid (Int.tdiv_eq_ediv_of_dvd (Int.gcd_dvd_right n d))
  obtain ⟨RN, hRN⟩ : ∃ x, ofN n d = x := ⟨_, rfl⟩
  obtain ⟨RD, hRD⟩ : ∃ x, ofD n d = x := ⟨_, rfl⟩
  rw [hRN, hRD]
  have HRN := Lib.hid hRN
  have HRD := Lib.hid hRD
  clear hRN hRD
  generalize Int.gcd n d = g at *
  obtain ⟨N, hT⟩ : ∃ N, n.tdiv g = N := ⟨_, rfl⟩
  obtain ⟨D, hTD⟩ : ∃ D, d.tdiv g = D := ⟨_, rfl⟩
  rw [hT] at HH HD1 HV lN uN
  rw [hTD] at HH HD2 HV lD uD
  have hN : n / (g : Int) = N := HD1.out.symm
  have hD : d / (g : Int) = D := HD2.out.symm
  clear HD1 HD2
  have g0 : ((g : Int) == 0) = false := eq_z (by omega)
  have d0 : (d == 0) = false := eq_z (by omega)
  have hg3 : (0 : Int) < (g : Int) := by omega
  have hd' : (0 : Int) < d := by omega
  have dn : ¬ (d < 0) := by omega
  clear hd
  go_enter Try.func39, Try.ntmps39
  go_wp2_with fail
  refine (HG.out _).mono ?_
  rintro e w1 ⟨rfl, k, rfl⟩
  go_wp2_with fail
  have v0 : IntKind.i64.wrap N = N := IntWalk.i64_in _ (by omega)
  have v1 : IntKind.i64.wrap D = D := IntWalk.i64_in _ (by omega)
  go_region
  clear hN hD hT hTD v0 v1 g0 hg hg2 hg3 HG
  go_wp2_with fail
  cases hh : hasR n d with
  | true =>
    have HO := Lib.hid (HH.out.trans hh)
    refine (spec_ok N D _ (by omega) (by omega) (by omega) (by omega)).mono ?_
    rw [HO.out]
    rintro e w2 ⟨rfl, hb2⟩
    have HE1 := Lib.hid (show RN = N by rw [← HRN.out]; unfold ofN; rw [if_pos hh]; exact HV.out.1)
    have HE2 := Lib.hid (show RD = D by rw [← HRD.out]; unfold ofD; rw [if_pos hh]; exact HV.out.2)
    obtain ⟨p0, p1, p2, p3, f0, f1, hz, hbw⟩ := boxes_drew hb2
    clear hb2 hh
    go_wp2_with fail
    refine bodyPost_ret (v := .agg #[.int .i64 N, .int .i64 D]) (by simp [results, Try.results39, go_sem, p0, p1]) rfl ⟨by rw [HE1.out, HE2.out], ?_⟩
    exact (hbw.setCell (by simp) _).setCell (by simp) _
  | false =>
    have HO := Lib.hid (HH.out.trans hh)
    refine (spec_ok N D _ (by omega) (by omega) (by omega) (by omega)).mono ?_
    rw [HO.out]
    rintro e w2 ⟨rfl, hb2⟩
    have HE1 := Lib.hid (show RN = 0 by rw [← HRN.out]; unfold ofN; rw [if_neg (by rw [hh]; simp)])
    have HE2 := Lib.hid (show RD = 0 by rw [← HRD.out]; unfold ofD; rw [if_neg (by rw [hh]; simp)])
    obtain ⟨p0, p1, p2, p3, f0, f1, hz, hbw⟩ := boxes_drew hb2
    clear hb2 hh
    go_wp2_with fail
    refine bodyPost_ret (v := .agg #[.int .i64 0, .int .i64 0]) (by simp [results, Try.results39, go_sem, p0, p1]) rfl ⟨by rw [HE1.out, HE2.out], ?_⟩
    exact (hbw.setCell (by simp) _).setCell (by simp) _

theorem m64_and (a : Nat) (ha : a < 18446744073709551616) : bits .and .u64 (a : Int) 4294967295 = ((a % 4294967296 : Nat) : Int) := by
  have h := bits_and_u64_nat a 4294967295 ha (by omega)
  rwa [show a &&& 4294967295 = a % 4294967296 from Nat.and_two_pow_sub_one_eq_mod a 32] at h
theorem m64_div (a : Nat) : (a : Int) / 4294967296 = ((a / 4294967296 : Nat) : Int) := by omega
theorem m64_mul (a b : Nat) : (a : Int) * (b : Int) = ((a * b : Nat) : Int) := (Int.natCast_mul a b).symm
theorem m64_add (a b : Nat) : (a : Int) + (b : Int) = ((a + b : Nat) : Int) := (Int.natCast_add a b).symm
theorem m64_in (a : Nat) (ha : a < 18446744073709551616) : IntKind.u64.wrap (a : Int) = (a : Int) := by rw [IntKind.wrap_u64]; omega
theorem m64_low (a : Nat) : IntKind.u64.wrap (a : Int) = ((a % 18446744073709551616 : Nat) : Int) := by rw [IntKind.wrap_u64]; omega
/-- a product within the limit -/
def lpB (a b : Int) : Bool := decide (a.natAbs * b.natAbs ≤ 9000000000000000000)
def lpN (a b : Int) : Int := if lpB a b = true then a * b else 0
theorem lp_abs {a b : Int} (h : lpB a b = true) : -9000000000000000000 ≤ a * b ∧ a * b ≤ 9000000000000000000 := by
  unfold lpB at h
  rw [decide_eq_true_eq, ← Int.natAbs_mul] at h
  generalize a * b = p at *
  omega
/-- a sum within the limit -/
def lsB (a b : Int) : Bool := decide (a + b ≤ 9000000000000000000) && decide (-9000000000000000000 ≤ a + b)
def lsN (a b : Int) : Int := if lsB a b = true then a + b else 0
/-- whether the sum stays within the limit -/
def smC (rN rD sN sD : Int) : Bool := lpB rN sD && lpB sN rD && lpB rD sD && lsB (rN * sD) (sN * rD)
def smN (rN rD sN sD : Int) : Int := if smC rN rD sN sD = true then ofN (rN * sD + sN * rD) (rD * sD) else 0
def smD (rN rD sN sD : Int) : Int := if smC rN rD sN sD = true then ofD (rN * sD + sN * rD) (rD * sD) else 0
def smB (rN rD sN sD : Int) : Bool := smC rN rD sN sD && hasR (rN * sD + sN * rD) (rD * sD)
theorem sm_no {rN rD sN sD : Int} (h : smC rN rD sN sD = false) : smN rN rD sN sD = 0 ∧ smD rN rD sN sD = 0 ∧ smB rN rD sN sD = false := by
  unfold smN smD smB; rw [h]; simp
theorem sm_yes {rN rD sN sD : Int} (h : smC rN rD sN sD = true) : smN rN rD sN sD = ofN (rN * sD + sN * rD) (rD * sD) ∧ smD rN rD sN sD = ofD (rN * sD + sN * rD) (rD * sD) ∧ smB rN rD sN sD = hasR (rN * sD + sN * rD) (rD * sD) := by
  unfold smN smD smB; rw [h]; simp
theorem of_ok {n d : Int} : okR (ofN n d) (ofD n d) = hasR n d := by
  unfold ofN ofD
  cases h : hasR n d with
  | true => rw [if_pos rfl, if_pos rfl]; exact okR_of n d h
  | false => simp [okR]
theorem of_rng {n d : Int} : (-1000000000000000000 ≤ ofN n d ∧ ofN n d ≤ 1000000000000000000) ∧ 0 ≤ ofD n d ∧ ofD n d ≤ 1000000000000000 := by
  unfold ofN ofD
  cases h : hasR n d with
  | true =>
    have k := okR_of n d h
    rw [okR_iff] at k
    rw [if_pos rfl, if_pos rfl]
    omega
  | false => simp
theorem lp_pos {a b : Int} (ha : 1 ≤ a) (hb : 1 ≤ b) : 1 ≤ a * b := by
  have : 0 < a * b := Int.mul_pos (by omega) (by omega)
  omega
theorem lp_quo {a d : Int} (hd : 1 ≤ d) : decide ((9000000000000000000 : Int).tdiv d < max a (-a)) = !lpB a d := by
  unfold lpB
  have e : max a (-a) = (a.natAbs : Int) := by omega
  obtain ⟨k, rfl⟩ : ∃ k : Nat, d = (k : Int) := ⟨d.toNat, by omega⟩
  have hk : 0 < k := by omega
  rw [e, Int.natAbs_natCast, show (9000000000000000000 : Int).tdiv (k : Int) = ((9000000000000000000 / k : Nat) : Int) from (Int.ofNat_tdiv 9000000000000000000 k).symm]
  rw [Bool.eq_iff_iff]
  simp only [decide_eq_true_eq, Bool.not_eq_true', decide_eq_false_iff_not]
  rw [← Nat.le_div_iff_mul_le hk]
  omega
theorem lp_quo1 {a d : Int} (hd : 1 ≤ d) (ha : 1 ≤ a) : decide ((9000000000000000000 : Int).tdiv d < a) = !lpB a d := by
  rw [← lp_quo hd, show max a (-a) = a by omega]
theorem quo_rng {d : Int} (hd : 1 ≤ d) : 0 ≤ (9000000000000000000 : Int).tdiv d ∧ (9000000000000000000 : Int).tdiv d ≤ 9000000000000000000 := by
  obtain ⟨k, rfl⟩ : ∃ k : Nat, d = (k : Int) := ⟨d.toNat, by omega⟩
  rw [show (9000000000000000000 : Int).tdiv (k : Int) = ((9000000000000000000 / k : Nat) : Int) from (Int.ofNat_tdiv 9000000000000000000 k).symm]
  have := Nat.div_le_self 9000000000000000000 k
  generalize 9000000000000000000 / k = m at *
  omega
end Go.Proofs.Ytibkmhmeoelpdaa
