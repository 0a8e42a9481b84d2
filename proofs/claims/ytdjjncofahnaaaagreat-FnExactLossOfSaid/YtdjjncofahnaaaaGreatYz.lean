/- RatioOf of any fraction with a positive divisor, over the translation. The program's sum of two fractions, over the translation. The sum of two fractions of the program and of the model, over the translation. The model's sum of two fractions, in full, over the translation. -/
import Derived.Test.YtdjjncofahnaaaaGreatCq
import Derived.Lib.Mul64
import Derived.Laws.Bits64b
import Derived.Test.YtdjjncofahnaaaaGreatEz
namespace Go.Proofs.YtdjjncofahnaaaaGreat
open Go.RowKit
open Go.RowKit Go.Shelf

set_option maxHeartbeats 1600000 in
theorem impl_ofn (n d : Int) (T B : Nat) (w : World) (hn : -9223372036854775808 ≤ n) (hn2 : n ≤ 9223372036854775807) (hd : 1 ≤ d) (hd2 : d ≤ 9223372036854775807) (h : ¬ (T ≤ 1000000000000000000 ∧ B ≤ 1000000000000000)) (hT : topR n d = T) (hB : botR n d = B) :
    Calls Tryz.prog 65 #[.int .i64 n, .int .i64 d] w fun e w' => e = .returned (.agg #[.int .i64 0, .int .i64 0]) ∧ Below w.heap.size w w' := by
  have hd0 : (d == 0) = false := eq_z (by omega)
  have hg : 0 < n.natAbs.gcd d.natAbs := Nat.gcd_pos_of_pos_right _ (by omega)
  have HT := Lib.hid (show n.natAbs / n.natAbs.gcd d.natAbs = T from hT)
  have HB := Lib.hid (show d.natAbs / n.natAbs.gcd d.natAbs = B from hB)
  have hp : n.natAbs ≤ 9223372036854775808 := by omega
  have hq : d.natAbs ≤ 9223372036854775808 := by omega
  have HM := Lib.hid (fun W => magn n W hn hn2)
  have HK := Lib.hid (fun W => magn d W (by omega) hd2)
  clear hT hB
  generalize n.natAbs = p at *
  generalize d.natAbs = q at *
  have HG := Lib.hid (fun W => gcd_mag p q W hp hq)
  generalize p.gcd q = g at *
  have hTp : T ≤ 9223372036854775808 := by rw [← HT.out]; exact Nat.le_trans (Nat.div_le_self _ _) hp
  have hBq : B ≤ 9223372036854775808 := by rw [← HB.out]; exact Nat.le_trans (Nat.div_le_self _ _) hq
  have HP := Lib.hid (show (p : Int) / (g : Int) = (T : Int) by rw [← HT.out]; rfl)
  have HQ := Lib.hid (show (q : Int) / (g : Int) = (B : Int) by rw [← HB.out]; rfl)
  clear HT HB
  go_enter Tryz.func65, Tryz.ntmps65
  go_wp2_with fail
  refine (HM.out _).mono ?_
  rintro e w1 ⟨rfl, rfl⟩
  go_wp2_with fail
  refine (HK.out _).mono ?_
  rintro e w1 ⟨rfl, rfl⟩
  go_wp2_with fail
  refine (HG.out _).mono ?_
  rintro e w1 ⟨rfl, k, rfl⟩
  have hg2 : (0 : Int) < (g : Int) := by omega
  go_wp2_with fail
  go_quiet (fail)
  rw [HP.out, HQ.out, IntWalk.u64_in (T : Int) ⟨by omega, by omega⟩, IntWalk.u64_in (B : Int) ⟨by omega, by omega⟩]
  clear HP HQ HM HK HG hg hg2
  by_cases h1 : T ≤ 1000000000000000000
  · have h2 : ¬ B ≤ 1000000000000000 := fun k => h ⟨h1, k⟩
    have c1 : ¬ ((1000000000000000000 : Int) < (T : Int)) := by omega
    have c2 : (1000000000000000 : Int) < (B : Int) := by omega
    clear h
    go_wp2_with fail
    refine bodyPost_ret (v := .agg #[.int .i64 0, .int .i64 0]) (by simp [results, Tryz.results65, go_sem]) rfl ⟨rfl, ?_⟩
    exact ((below_drew (below_box _ _) _).setCell (by simp) _).setCell (by simp) _
  · have c1 : (1000000000000000000 : Int) < (T : Int) := by omega
    clear h
    go_wp2_with fail
    refine bodyPost_ret (v := .agg #[.int .i64 0, .int .i64 0]) (by simp [results, Tryz.results65, go_sem]) rfl ⟨rfl, ?_⟩
    exact ((below_drew (below_box _ _) _).setCell (by simp) _).setCell (by simp) _
/-- RatioOf of n and d, where d is positive -/
def ofN (n d : Int) : Int := if hasR n d = true then sgnR n d else 0
def ofD (n d : Int) : Int := if hasR n d = true then (botR n d : Int) else 0
theorem impl_ofA (n d : Int) (w : World) (hn : -9223372036854775808 ≤ n) (hn2 : n ≤ 9223372036854775807) (hd : 1 ≤ d) (hd2 : d ≤ 9223372036854775807) :
    Calls Tryz.prog 65 #[.int .i64 n, .int .i64 d] w fun e w' => e = .returned (.agg #[.int .i64 (ofN n d), .int .i64 (ofD n d)]) ∧ Below w.heap.size w w' := by
  unfold ofN ofD
  cases h : hasR n d with
  | true => exact impl_of n d _ _ _ w hn hn2 (by omega) hd2 h rfl rfl rfl
  | false =>
    refine impl_ofn n d _ _ w hn hn2 hd hd2 ?_ rfl rfl
    intro k
    rw [(hasR_iff n d).2 ⟨by omega, k.1, k.2⟩] at h
    cases h
theorem div_gcd_le {n : Int} {g : Nat} (_hg : 0 < g) (a : -9223372036854775807 ≤ n) (b : n ≤ 9223372036854775807) : -9223372036854775807 ≤ n.tdiv g ∧ n.tdiv g ≤ 9223372036854775807 := by
  have h := Int.natAbs_tdiv n g
  have k : n.natAbs / (g : Int).natAbs ≤ n.natAbs := Nat.div_le_self _ _
  have e : (n.tdiv g).natAbs ≤ n.natAbs := by rw [h]; exact k
  omega
theorem of_num {n d : Int} (hd : 1 ≤ d) : sgnR n d = n.tdiv (Int.gcd n d) ∧ (botR n d : Int) = d.tdiv (Int.gcd n d) := by
  refine ⟨?_, ?_⟩
  · unfold sgnR topR
    have hd' : decide (d < 0) = false := decide_eq_false (by omega)
    rw [hd']
    show (if (decide (n < 0) != false) = true then -((n.natAbs / Int.gcd n d : Nat) : Int) else ((n.natAbs / Int.gcd n d : Nat) : Int)) = n.tdiv (Int.gcd n d)
    generalize Int.gcd n d = g
    by_cases h : n < 0
    · rw [decide_eq_true h]
      have e : n = -(n.natAbs : Int) := by omega
      conv => rhs; rw [e]
      rw [Int.neg_tdiv, ← Int.ofNat_tdiv]
      simp
    · rw [decide_eq_false h]
      have e : n = (n.natAbs : Int) := by omega
      conv => rhs; rw [e]
      rw [← Int.ofNat_tdiv]
      simp
  · show ((d.natAbs / Int.gcd n d : Nat) : Int) = d.tdiv (Int.gcd n d)
    generalize Int.gcd n d = g
    have e : d = (d.natAbs : Int) := by omega
    conv => rhs; rw [e]
    rw [← Int.ofNat_tdiv]
theorem of_has {n d : Int} (hd : 1 ≤ d) : okR (n.tdiv (Int.gcd n d)) (d.tdiv (Int.gcd n d)) = hasR n d := by
  obtain ⟨e1, e2⟩ := of_num (n := n) hd
  rw [← e1, ← e2]
  cases h : hasR n d with
  | true => exact okR_of n d h
  | false =>
    cases k : okR (sgnR n d) (botR n d) with
    | false => rfl
    | true =>
      rw [okR_iff] at k
      have ht : topR n d ≤ 1000000000000000000 := by
        have := k.2.2.1
        have := k.2.2.2.1
        unfold sgnR at *
        split at * <;> omega
      rw [(hasR_iff n d).2 ⟨by omega, ht, by omega⟩] at h
      cases h
set_option maxHeartbeats 1600000 in
theorem spec_ofA (n d : Int) (w : World) (hn : -9223372036854775807 ≤ n) (hn2 : n ≤ 9223372036854775807) (hd : 1 ≤ d) (hd2 : d ≤ 9223372036854775807) :
    Calls Tryz.prog 85 #[.int .i64 n, .int .i64 d] w fun e w' => e = .returned (.agg #[.int .i64 (ofN n d), .int .i64 (ofD n d)]) ∧ Below w.heap.size w w' := by
  have hg : 0 < Int.gcd n d := Nat.gcd_pos_of_pos_right _ (by omega)
  have HH := Lib.hid (of_has (n := n) hd)
  have HV := Lib.hid (of_num (n := n) hd)
  have HG := Lib.hid (spec_gcd n d · (by omega) (by omega) (by omega) (by omega))
  rw [gcdR_of n d (by omega) (by omega)] at HG
  have hg2 : Int.gcd n d ≤ 9223372036854775807 := Nat.le_trans (Nat.gcd_le_right n.natAbs (by omega : 0 < d.natAbs)) (by omega)
  obtain ⟨lN, uN⟩ := div_gcd_le hg hn hn2
  obtain ⟨lD, uD⟩ := div_gcd_le hg (show -9223372036854775807 ≤ d by omega) hd2
  have HD1 := Lib.hid (Int.tdiv_eq_ediv_of_dvd (Int.gcd_dvd_left n d))
  have HD2 := Lib.hid (Int.tdiv_eq_ediv_of_dvd (Int.gcd_dvd_right n d))
  obtain ⟨RN, hRN⟩ : ∃ x, ofN n d = x := ⟨_, rfl⟩
  obtain ⟨RD, hRD⟩ : ∃ x, ofD n d = x := ⟨_, rfl⟩
  rw [hRN, hRD]
  have HRN := Lib.hid hRN
  have HRD := Lib.hid hRD
  clear hRN hRD
  generalize Int.gcd n d = g at *
  obtain ⟨N, hT⟩ : ∃ N, n.tdiv g = N := ⟨_, rfl⟩
  obtain ⟨D, hTD⟩ : ∃ D, d.tdiv g = D := ⟨_, rfl⟩
  rw [hT] at HH HD1 HV lN uN
  rw [hTD] at HH HD2 HV lD uD
  have hN : n / (g : Int) = N := HD1.out.symm
  have hD : d / (g : Int) = D := HD2.out.symm
  clear HD1 HD2
  have g0 : ((g : Int) == 0) = false := eq_z (by omega)
  have d0 : (d == 0) = false := eq_z (by omega)
  have hg3 : (0 : Int) < (g : Int) := by omega
  have hd' : (0 : Int) < d := by omega
  have dn : ¬ (d < 0) := by omega
  clear hd
  go_enter Tryz.func85, Tryz.ntmps85
  go_wp2_with fail
  refine (HG.out _).mono ?_
  rintro e w1 ⟨rfl, k, rfl⟩
  go_wp2_with fail
  have v0 : IntKind.i64.wrap N = N := IntWalk.i64_in _ (by omega)
  have v1 : IntKind.i64.wrap D = D := IntWalk.i64_in _ (by omega)
  go_region
  clear hN hD hT hTD v0 v1 g0 hg hg2 hg3 HG
  go_wp2_with fail
  cases hh : hasR n d with
  | true =>
    have HO := Lib.hid (HH.out.trans hh)
    refine (spec_ok N D _ (by omega) (by omega) (by omega) (by omega)).mono ?_
    rw [HO.out]
    rintro e w2 ⟨rfl, hb2⟩
    have HE1 := Lib.hid (show RN = N by rw [← HRN.out]; unfold ofN; rw [if_pos hh]; exact HV.out.1)
    have HE2 := Lib.hid (show RD = D by rw [← HRD.out]; unfold ofD; rw [if_pos hh]; exact HV.out.2)
    obtain ⟨p0, p1, p2, p3, f0, f1, hz, hbw⟩ := boxes_drew hb2
    clear hb2 hh
    go_wp2_with fail
    refine bodyPost_ret (v := .agg #[.int .i64 N, .int .i64 D]) (by simp [results, Tryz.results85, go_sem, p0, p1]) rfl ⟨by rw [HE1.out, HE2.out], ?_⟩
    exact (hbw.setCell (by simp) _).setCell (by simp) _
  | false =>
    have HO := Lib.hid (HH.out.trans hh)
    refine (spec_ok N D _ (by omega) (by omega) (by omega) (by omega)).mono ?_
    rw [HO.out]
    rintro e w2 ⟨rfl, hb2⟩
    have HE1 := Lib.hid (show RN = 0 by rw [← HRN.out]; unfold ofN; rw [if_neg (by rw [hh]; simp)])
    have HE2 := Lib.hid (show RD = 0 by rw [← HRD.out]; unfold ofD; rw [if_neg (by rw [hh]; simp)])
    obtain ⟨p0, p1, p2, p3, f0, f1, hz, hbw⟩ := boxes_drew hb2
    clear hb2 hh
    go_wp2_with fail
    refine bodyPost_ret (v := .agg #[.int .i64 0, .int .i64 0]) (by simp [results, Tryz.results85, go_sem, p0, p1]) rfl ⟨by rw [HE1.out, HE2.out], ?_⟩
    exact (hbw.setCell (by simp) _).setCell (by simp) _

theorem m64_and (a : Nat) (ha : a < 18446744073709551616) : bits .and .u64 (a : Int) 4294967295 = ((a % 4294967296 : Nat) : Int) := by
  have h := bits_and_u64_nat a 4294967295 ha (by omega)
  rwa [show a &&& 4294967295 = a % 4294967296 from Nat.and_two_pow_sub_one_eq_mod a 32] at h
theorem m64_div (a : Nat) : (a : Int) / 4294967296 = ((a / 4294967296 : Nat) : Int) := by omega
theorem m64_mul (a b : Nat) : (a : Int) * (b : Int) = ((a * b : Nat) : Int) := (Int.natCast_mul a b).symm
theorem m64_add (a b : Nat) : (a : Int) + (b : Int) = ((a + b : Nat) : Int) := (Int.natCast_add a b).symm
theorem m64_in (a : Nat) (ha : a < 18446744073709551616) : IntKind.u64.wrap (a : Int) = (a : Int) := by rw [IntKind.wrap_u64]; omega
theorem m64_low (a : Nat) : IntKind.u64.wrap (a : Int) = ((a % 18446744073709551616 : Nat) : Int) := by rw [IntKind.wrap_u64]; omega
/-- a product within the limit -/
def lpB (a b : Int) : Bool := decide (a.natAbs * b.natAbs ≤ 9000000000000000000)
def lpN (a b : Int) : Int := if lpB a b = true then a * b else 0
theorem lp_abs {a b : Int} (h : lpB a b = true) : -9000000000000000000 ≤ a * b ∧ a * b ≤ 9000000000000000000 := by
  unfold lpB at h
  rw [decide_eq_true_eq, ← Int.natAbs_mul] at h
  generalize a * b = p at *
  omega
/-- a sum within the limit -/
def lsB (a b : Int) : Bool := decide (a + b ≤ 9000000000000000000) && decide (-9000000000000000000 ≤ a + b)
def lsN (a b : Int) : Int := if lsB a b = true then a + b else 0
/-- whether the sum stays within the limit -/
def smC (rN rD sN sD : Int) : Bool := lpB rN sD && lpB sN rD && lpB rD sD && lsB (rN * sD) (sN * rD)
def smN (rN rD sN sD : Int) : Int := if smC rN rD sN sD = true then ofN (rN * sD + sN * rD) (rD * sD) else 0
def smD (rN rD sN sD : Int) : Int := if smC rN rD sN sD = true then ofD (rN * sD + sN * rD) (rD * sD) else 0
def smB (rN rD sN sD : Int) : Bool := smC rN rD sN sD && hasR (rN * sD + sN * rD) (rD * sD)
theorem sm_no {rN rD sN sD : Int} (h : smC rN rD sN sD = false) : smN rN rD sN sD = 0 ∧ smD rN rD sN sD = 0 ∧ smB rN rD sN sD = false := by
  unfold smN smD smB; rw [h]; simp
theorem sm_yes {rN rD sN sD : Int} (h : smC rN rD sN sD = true) : smN rN rD sN sD = ofN (rN * sD + sN * rD) (rD * sD) ∧ smD rN rD sN sD = ofD (rN * sD + sN * rD) (rD * sD) ∧ smB rN rD sN sD = hasR (rN * sD + sN * rD) (rD * sD) := by
  unfold smN smD smB; rw [h]; simp
theorem of_ok {n d : Int} : okR (ofN n d) (ofD n d) = hasR n d := by
  unfold ofN ofD
  cases h : hasR n d with
  | true => rw [if_pos rfl, if_pos rfl]; exact okR_of n d h
  | false => simp [okR]
theorem of_rng {n d : Int} : (-1000000000000000000 ≤ ofN n d ∧ ofN n d ≤ 1000000000000000000) ∧ 0 ≤ ofD n d ∧ ofD n d ≤ 1000000000000000 := by
  unfold ofN ofD
  cases h : hasR n d with
  | true =>
    have k := okR_of n d h
    rw [okR_iff] at k
    rw [if_pos rfl, if_pos rfl]
    omega
  | false => simp
theorem lp_pos {a b : Int} (ha : 1 ≤ a) (hb : 1 ≤ b) : 1 ≤ a * b := by
  have : 0 < a * b := Int.mul_pos (by omega) (by omega)
  omega
theorem lp_quo {a d : Int} (hd : 1 ≤ d) : decide ((9000000000000000000 : Int).tdiv d < max a (-a)) = !lpB a d := by
  unfold lpB
  have e : max a (-a) = (a.natAbs : Int) := by omega
  obtain ⟨k, rfl⟩ : ∃ k : Nat, d = (k : Int) := ⟨d.toNat, by omega⟩
  have hk : 0 < k := by omega
  rw [e, Int.natAbs_natCast, show (9000000000000000000 : Int).tdiv (k : Int) = ((9000000000000000000 / k : Nat) : Int) from (Int.ofNat_tdiv 9000000000000000000 k).symm]
  rw [Bool.eq_iff_iff]
  simp only [decide_eq_true_eq, Bool.not_eq_true', decide_eq_false_iff_not]
  rw [← Nat.le_div_iff_mul_le hk]
  omega
theorem lp_quo1 {a d : Int} (hd : 1 ≤ d) (ha : 1 ≤ a) : decide ((9000000000000000000 : Int).tdiv d < a) = !lpB a d := by
  rw [← lp_quo hd, show max a (-a) = a by omega]
theorem quo_rng {d : Int} (hd : 1 ≤ d) : 0 ≤ (9000000000000000000 : Int).tdiv d ∧ (9000000000000000000 : Int).tdiv d ≤ 9000000000000000000 := by
  obtain ⟨k, rfl⟩ : ∃ k : Nat, d = (k : Int) := ⟨d.toNat, by omega⟩
  rw [show (9000000000000000000 : Int).tdiv (k : Int) = ((9000000000000000000 / k : Nat) : Int) from (Int.ofNat_tdiv 9000000000000000000 k).symm]
  have := Nat.div_le_self 9000000000000000000 k
  generalize 9000000000000000000 / k = m at *
  omega
set_option maxRecDepth 100000 in
set_option maxHeartbeats 3200000 in
theorem spec_sumA (rN rD sN sD : Int) (w : World) (hr : okR rN rD = true) (hs : okR sN sD = true) :
    Calls Tryz.prog 87 #[.agg #[.int .i64 rN, .int .i64 rD], .agg #[.int .i64 sN, .int .i64 sD]] w fun e w' => e = .returned (.tuple #[.agg #[.int .i64 (smN rN rD sN sD), .int .i64 (smD rN rD sN sD)], .bool (smB rN rD sN sD)]) ∧ Below w.heap.size w w' := by
  have kr := (okR_iff _ _).1 hr
  have ks := (okR_iff _ _).1 hs
  clear hr hs
  have bV := below_bx2 (below_bx2 (below_one w (.cells #[.int .i64 rN, .int .i64 rD] 50)) (.cells #[.int .i64 sN, .int .i64 sD] 50)) (.cells #[.int .i64 0, .int .i64 0] 50)
  have K0 := ((blk_new w #[.int .i64 rN, .int .i64 rD] 50 (b := w.heap.size) (by simp)).to (below_one _ (.cells #[.int .i64 sN, .int .i64 sD] 50))).to (below_one _ (.cells #[.int .i64 0, .int .i64 0] 50))
  have K1 := (blk_new (w.alloc (.cells #[.int .i64 rN, .int .i64 rD] 50)) #[.int .i64 sN, .int .i64 sD] 50 (b := w.heap.size + 1) (by simp)).to (below_one _ (.cells #[.int .i64 0, .int .i64 0] 50))
  have K2 := blk_new ((w.alloc (.cells #[.int .i64 rN, .int .i64 rD] 50)).alloc (.cells #[.int .i64 sN, .int .i64 sD] 50)) #[.int .i64 0, .int .i64 0] 50 (b := w.heap.size + 1 + 1) (by simp)
  have X1 := Lib.hid (lp_quo (a := rN) ks.1)
  have X2 := Lib.hid (lp_quo (a := sN) kr.1)
  have X3 := Lib.hid (lp_quo1 (a := rD) ks.1 kr.1)
  obtain ⟨qa, qb⟩ := quo_rng ks.1
  obtain ⟨qc, qd⟩ := quo_rng kr.1
  have HPO := Lib.hid (lp_pos kr.1 ks.1)
  have v1 : IntKind.i64.wrap (-rN) = -rN := IntWalk.i64_in _ (by omega)
  have v2 : IntKind.i64.wrap (-sN) = -sN := IntWalk.i64_in _ (by omega)
  have v3 : IntKind.i64.wrap 9000000000000000000 = 9000000000000000000 := by decide
  have v30 : IntKind.i64.wrap (-9000000000000000000) = -9000000000000000000 := by decide
  have hD0 : ¬ sD = 0 := by omega
  have hR0 : ¬ rD = 0 := by omega
  clear kr ks
  generalize eq1 : (9000000000000000000 : Int).tdiv sD = q1 at *
  generalize eq2 : (9000000000000000000 : Int).tdiv rD = q2 at *
  have v4 : IntKind.i64.wrap q1 = q1 := IntWalk.i64_in _ (by omega)
  have v5 : IntKind.i64.wrap q2 = q2 := IntWalk.i64_in _ (by omega)
  clear qa qb qc qd
  have HYY := Lib.hid (fun h => sm_yes (rN := rN) (rD := rD) (sN := sN) (sD := sD) h)
  obtain ⟨RN, hRN⟩ : ∃ x, smN rN rD sN sD = x := ⟨_, rfl⟩
  obtain ⟨RD, hRD⟩ : ∃ x, smD rN rD sN sD = x := ⟨_, rfl⟩
  obtain ⟨RB, hRB⟩ : ∃ x, smB rN rD sN sD = x := ⟨_, rfl⟩
  rw [hRN, hRD, hRB]
  have HRN := Lib.hid hRN
  have HRD := Lib.hid hRD
  have HRB := Lib.hid hRB
  clear hRN hRD hRB
  rw [HRN.out, HRD.out, HRB.out] at HYY
  cases h1 : lpB rN sD with
  | false =>
    have HC := Lib.hid (show smC rN rD sN sD = false by unfold smC; rw [h1]; simp)
    have x1 := X1.out
    rw [h1] at x1
    simp only [Bool.not_false] at x1
    clear HYY HPO h1
    have c0_0 := K0.cell0 (i := 0) (v := .int .i64 rN) rfl
    have c0_1 := K0.cell0 (i := 1) (v := .int .i64 rD) rfl
    have c1_0 := K1.cell0 (i := 0) (v := .int .i64 sN) rfl
    have c1_1 := K1.cell0 (i := 1) (v := .int .i64 sD) rfl
    go_enter Tryz.func87, Tryz.ntmps87
    go_wp2_with fail
    generalize (((w.alloc (.cells #[.int .i64 rN, .int .i64 rD] 50)).alloc (.cells #[.int .i64 sN, .int .i64 sD] 50)).alloc (.cells #[.int .i64 0, .int .i64 0] 50)) = V at *
    have g1 := K2.cell0 (i := 0) rfl
    have g2 := K2.cell0 (i := 1) rfl
    have f1 := K2.free 0
    have f2 := K2.free 1
    have hc5 := (blk_set2 K2 (.int .i64 0) (.int .i64 0)).cell0 (i := 0) rfl
    have hc6 := (blk_set2 K2 (.int .i64 0) (.int .i64 0)).cell0 (i := 1) rfl
    go_region
    all_goals
      have HNO0 := sm_no HC.out
      rw [HRN.out, HRD.out, HRB.out] at HNO0
      have HNO := Lib.hid HNO0
      clear HNO0
      go_wp2_with fail
      exact bodyPost_ret (v := .tuple #[.agg #[.int .i64 0, .int .i64 0], .bool false]) (by simp [results, Tryz.results87, go_sem, hc5, hc6]) rfl ⟨by rw [HNO.out.1, HNO.out.2.1, HNO.out.2.2], by first | with_reducible exact ((below_drw bV).setCell (p := ⟨w.heap.size + 1 + 1, 0, none⟩) (Nat.le_add_right _ 2) _).setCell (p := ⟨w.heap.size + 1 + 1, 1, none⟩) (Nat.le_add_right _ 2) _ | with_reducible exact below_drw ((bV.setCell (p := ⟨w.heap.size + 1 + 1, 0, none⟩) (Nat.le_add_right _ 2) _).setCell (p := ⟨w.heap.size + 1 + 1, 1, none⟩) (Nat.le_add_right _ 2) _)⟩
  | true =>
    cases h2 : lpB sN rD with
    | false =>
      have HC := Lib.hid (show smC rN rD sN sD = false by unfold smC; rw [h2]; simp)
      have x1 := X1.out
      rw [h1] at x1
      simp only [Bool.not_true] at x1
      have x2 := X2.out
      rw [h2] at x2
      simp only [Bool.not_false] at x2
      clear HYY HPO h1 h2
      have c0_0 := K0.cell0 (i := 0) (v := .int .i64 rN) rfl
      have c0_1 := K0.cell0 (i := 1) (v := .int .i64 rD) rfl
      have c1_0 := K1.cell0 (i := 0) (v := .int .i64 sN) rfl
      have c1_1 := K1.cell0 (i := 1) (v := .int .i64 sD) rfl
      go_enter Tryz.func87, Tryz.ntmps87
      go_wp2_with fail
      generalize (((w.alloc (.cells #[.int .i64 rN, .int .i64 rD] 50)).alloc (.cells #[.int .i64 sN, .int .i64 sD] 50)).alloc (.cells #[.int .i64 0, .int .i64 0] 50)) = V at *
      have g1 := K2.cell0 (i := 0) rfl
      have g2 := K2.cell0 (i := 1) rfl
      have f1 := K2.free 0
      have f2 := K2.free 1
      have hc5 := (blk_set2 K2 (.int .i64 0) (.int .i64 0)).cell0 (i := 0) rfl
      have hc6 := (blk_set2 K2 (.int .i64 0) (.int .i64 0)).cell0 (i := 1) rfl
      go_region
      all_goals
        have HNO0 := sm_no HC.out
        rw [HRN.out, HRD.out, HRB.out] at HNO0
        have HNO := Lib.hid HNO0
        clear HNO0
        go_wp2_with fail
        exact bodyPost_ret (v := .tuple #[.agg #[.int .i64 0, .int .i64 0], .bool false]) (by simp [results, Tryz.results87, go_sem, hc5, hc6]) rfl ⟨by rw [HNO.out.1, HNO.out.2.1, HNO.out.2.2], by first | with_reducible exact ((below_drw bV).setCell (p := ⟨w.heap.size + 1 + 1, 0, none⟩) (Nat.le_add_right _ 2) _).setCell (p := ⟨w.heap.size + 1 + 1, 1, none⟩) (Nat.le_add_right _ 2) _ | with_reducible exact below_drw ((bV.setCell (p := ⟨w.heap.size + 1 + 1, 0, none⟩) (Nat.le_add_right _ 2) _).setCell (p := ⟨w.heap.size + 1 + 1, 1, none⟩) (Nat.le_add_right _ 2) _)⟩
    | true =>
      cases h3 : lpB rD sD with
      | false =>
        have HC := Lib.hid (show smC rN rD sN sD = false by unfold smC; rw [h3]; simp)
        have x1 := X1.out
        rw [h1] at x1
        simp only [Bool.not_true] at x1
        have x2 := X2.out
        rw [h2] at x2
        simp only [Bool.not_true] at x2
        have x3 := X3.out
        rw [h3] at x3
        simp only [Bool.not_false] at x3
        clear HYY HPO h1 h2 h3
        have c0_0 := K0.cell0 (i := 0) (v := .int .i64 rN) rfl
        have c0_1 := K0.cell0 (i := 1) (v := .int .i64 rD) rfl
        have c1_0 := K1.cell0 (i := 0) (v := .int .i64 sN) rfl
        have c1_1 := K1.cell0 (i := 1) (v := .int .i64 sD) rfl
        go_enter Tryz.func87, Tryz.ntmps87
        go_wp2_with fail
        generalize (((w.alloc (.cells #[.int .i64 rN, .int .i64 rD] 50)).alloc (.cells #[.int .i64 sN, .int .i64 sD] 50)).alloc (.cells #[.int .i64 0, .int .i64 0] 50)) = V at *
        have g1 := K2.cell0 (i := 0) rfl
        have g2 := K2.cell0 (i := 1) rfl
        have f1 := K2.free 0
        have f2 := K2.free 1
        have hc5 := (blk_set2 K2 (.int .i64 0) (.int .i64 0)).cell0 (i := 0) rfl
        have hc6 := (blk_set2 K2 (.int .i64 0) (.int .i64 0)).cell0 (i := 1) rfl
        go_region
        all_goals
          have HNO0 := sm_no HC.out
          rw [HRN.out, HRD.out, HRB.out] at HNO0
          have HNO := Lib.hid HNO0
          clear HNO0
          go_wp2_with fail
          exact bodyPost_ret (v := .tuple #[.agg #[.int .i64 0, .int .i64 0], .bool false]) (by simp [results, Tryz.results87, go_sem, hc5, hc6]) rfl ⟨by rw [HNO.out.1, HNO.out.2.1, HNO.out.2.2], by first | with_reducible exact ((below_drw bV).setCell (p := ⟨w.heap.size + 1 + 1, 0, none⟩) (Nat.le_add_right _ 2) _).setCell (p := ⟨w.heap.size + 1 + 1, 1, none⟩) (Nat.le_add_right _ 2) _ | with_reducible exact below_drw ((bV.setCell (p := ⟨w.heap.size + 1 + 1, 0, none⟩) (Nat.le_add_right _ 2) _).setCell (p := ⟨w.heap.size + 1 + 1, 1, none⟩) (Nat.le_add_right _ 2) _)⟩
      | true =>
        have x1 := X1.out
        rw [h1] at x1
        simp only [Bool.not_true] at x1
        have x2 := X2.out
        rw [h2] at x2
        simp only [Bool.not_true] at x2
        have x3 := X3.out
        rw [h3] at x3
        simp only [Bool.not_true] at x3
        have HT := Lib.hid (show smC rN rD sN sD = lsB (rN * sD) (sN * rD) by unfold smC; rw [h1, h2, h3]; rfl)
        have HA1 := Lib.hid (lp_abs h1)
        have HA2 := Lib.hid (lp_abs h2)
        have HA3 := Lib.hid (lp_abs h3)
        clear h1 h2 h3
        have HNN := Lib.hid (fun h => sm_no (rN := rN) (rD := rD) (sN := sN) (sD := sD) h)
        rw [HRN.out, HRD.out, HRB.out] at HNN
        generalize eL : rN * sD = L at *
        generalize eM : sN * rD = M at *
        generalize eB : rD * sD = B at *
        obtain ⟨l1, l2⟩ := HA1.out
        obtain ⟨m1, m2⟩ := HA2.out
        obtain ⟨b1, b2⟩ := HA3.out
        have w1 : IntKind.i64.wrap L = L := IntWalk.i64_in _ (by omega)
        have w2 : IntKind.i64.wrap M = M := IntWalk.i64_in _ (by omega)
        have w3 : IntKind.i64.wrap B = B := IntWalk.i64_in _ (by omega)
        cases h4 : lsB L M with
        | false =>
          have HC := Lib.hid (HNN.out (HT.out.trans h4))
          unfold lsB at h4
          rw [Bool.and_eq_false_iff, decide_eq_false_iff_not, decide_eq_false_iff_not] at h4
          clear HYY HNN HT HPO
          by_cases p0 : 0 < L
          · have y1 : IntKind.i64.wrap (9000000000000000000 - L) = 9000000000000000000 - L := IntWalk.i64_in _ (by omega)
            have y2 : 9000000000000000000 - L < M := by omega
            clear h4 l1 l2 m1 m2 b1 b2 HA1 HA2 HA3
            have c0_0 := K0.cell0 (i := 0) (v := .int .i64 rN) rfl
            have c0_1 := K0.cell0 (i := 1) (v := .int .i64 rD) rfl
            have c1_0 := K1.cell0 (i := 0) (v := .int .i64 sN) rfl
            have c1_1 := K1.cell0 (i := 1) (v := .int .i64 sD) rfl
            go_enter Tryz.func87, Tryz.ntmps87
            go_wp2_with fail
            generalize (((w.alloc (.cells #[.int .i64 rN, .int .i64 rD] 50)).alloc (.cells #[.int .i64 sN, .int .i64 sD] 50)).alloc (.cells #[.int .i64 0, .int .i64 0] 50)) = V at *
            have g1 := K2.cell0 (i := 0) rfl
            have g2 := K2.cell0 (i := 1) rfl
            have f1 := K2.free 0
            have f2 := K2.free 1
            have hc5 := (blk_set2 K2 (.int .i64 0) (.int .i64 0)).cell0 (i := 0) rfl
            have hc6 := (blk_set2 K2 (.int .i64 0) (.int .i64 0)).cell0 (i := 1) rfl
            go_region
            all_goals
              go_wp2_with fail
              exact bodyPost_ret (v := .tuple #[.agg #[.int .i64 0, .int .i64 0], .bool false]) (by simp [results, Tryz.results87, go_sem, hc5, hc6]) rfl ⟨by rw [HC.out.1, HC.out.2.1, HC.out.2.2], by first | with_reducible exact ((below_drw bV).setCell (p := ⟨w.heap.size + 1 + 1, 0, none⟩) (Nat.le_add_right _ 2) _).setCell (p := ⟨w.heap.size + 1 + 1, 1, none⟩) (Nat.le_add_right _ 2) _ | with_reducible exact below_drw ((bV.setCell (p := ⟨w.heap.size + 1 + 1, 0, none⟩) (Nat.le_add_right _ 2) _).setCell (p := ⟨w.heap.size + 1 + 1, 1, none⟩) (Nat.le_add_right _ 2) _)⟩
          by_cases pL : L < 0
          · have y0 : ¬ 0 < L := by omega
            have y1 : IntKind.i64.wrap (-9000000000000000000 - L) = -9000000000000000000 - L := IntWalk.i64_in _ (by omega)
            have y2 : M < -9000000000000000000 - L := by omega
            clear h4 l1 l2 m1 m2 b1 b2 HA1 HA2 HA3
            have c0_0 := K0.cell0 (i := 0) (v := .int .i64 rN) rfl
            have c0_1 := K0.cell0 (i := 1) (v := .int .i64 rD) rfl
            have c1_0 := K1.cell0 (i := 0) (v := .int .i64 sN) rfl
            have c1_1 := K1.cell0 (i := 1) (v := .int .i64 sD) rfl
            go_enter Tryz.func87, Tryz.ntmps87
            go_wp2_with fail
            generalize (((w.alloc (.cells #[.int .i64 rN, .int .i64 rD] 50)).alloc (.cells #[.int .i64 sN, .int .i64 sD] 50)).alloc (.cells #[.int .i64 0, .int .i64 0] 50)) = V at *
            have g1 := K2.cell0 (i := 0) rfl
            have g2 := K2.cell0 (i := 1) rfl
            have f1 := K2.free 0
            have f2 := K2.free 1
            have hc5 := (blk_set2 K2 (.int .i64 0) (.int .i64 0)).cell0 (i := 0) rfl
            have hc6 := (blk_set2 K2 (.int .i64 0) (.int .i64 0)).cell0 (i := 1) rfl
            go_region
            all_goals
              go_wp2_with fail
              exact bodyPost_ret (v := .tuple #[.agg #[.int .i64 0, .int .i64 0], .bool false]) (by simp [results, Tryz.results87, go_sem, hc5, hc6]) rfl ⟨by rw [HC.out.1, HC.out.2.1, HC.out.2.2], by first | with_reducible exact ((below_drw bV).setCell (p := ⟨w.heap.size + 1 + 1, 0, none⟩) (Nat.le_add_right _ 2) _).setCell (p := ⟨w.heap.size + 1 + 1, 1, none⟩) (Nat.le_add_right _ 2) _ | with_reducible exact below_drw ((bV.setCell (p := ⟨w.heap.size + 1 + 1, 0, none⟩) (Nat.le_add_right _ 2) _).setCell (p := ⟨w.heap.size + 1 + 1, 1, none⟩) (Nat.le_add_right _ 2) _)⟩
          exfalso
          omega
        | true =>
          have HYS := Lib.hid (HYY.out (HT.out.trans h4))
          unfold lsB at h4
          rw [Bool.and_eq_true, decide_eq_true_eq, decide_eq_true_eq] at h4
          clear HYY HNN HT
          have w4 : IntKind.i64.wrap (L + M) = L + M := IntWalk.i64_in _ (by omega)
          have HO := Lib.hid (fun W => spec_ofA (L + M) B W (by omega) (by omega) HPO.out (by omega))
          have HK := Lib.hid (fun W => spec_ok (ofN (L + M) B) (ofD (L + M) B) W (by have := @of_rng (L + M) B; omega) (by have := @of_rng (L + M) B; omega) (by have := @of_rng (L + M) B; omega) (by have := @of_rng (L + M) B; omega))
          rw [of_ok] at HK
          by_cases p0 : 0 < L
          · have y1 : IntKind.i64.wrap (9000000000000000000 - L) = 9000000000000000000 - L := IntWalk.i64_in _ (by omega)
            have y2 : ¬ (9000000000000000000 - L < M) := by omega
            have y3 : ¬ L < 0 := by omega
            clear h4 l1 l2 m1 m2 b1 b2 HA1 HA2 HA3 HPO
            have c0_0 := K0.cell0 (i := 0) (v := .int .i64 rN) rfl
            have c0_1 := K0.cell0 (i := 1) (v := .int .i64 rD) rfl
            have c1_0 := K1.cell0 (i := 0) (v := .int .i64 sN) rfl
            have c1_1 := K1.cell0 (i := 1) (v := .int .i64 sD) rfl
            go_enter Tryz.func87, Tryz.ntmps87
            go_wp2_with fail
            generalize (((w.alloc (.cells #[.int .i64 rN, .int .i64 rD] 50)).alloc (.cells #[.int .i64 sN, .int .i64 sD] 50)).alloc (.cells #[.int .i64 0, .int .i64 0] 50)) = V at *
            have bW := below_drw bV
            have K2d := K2.to (below_drw (Below.refl _ _) : Below V.heap.size V V.drew)
            go_region
            all_goals go_wp2_with fail
            all_goals
              refine (HO.out _).mono ?_
              rintro e w4 ⟨rfl, bl4⟩
              have b4 := below_to bW bl4
              have Q2 := K2d.to bl4
              clear bW K2d bl4 HO
              generalize ofN (L + M) B = N at *
              generalize ofD (L + M) B = D at *
              generalize hasR (L + M) B = R at *
              go_wp2_with fail
              have hbx : w.heap.size + 1 + 1 ≠ w4.heap.size := by have := Q2.lt; omega
              obtain ⟨d1, d2, _, _⟩ := two_new w4 (.int .i64 N) (.int .i64 D) 50
              have bq := below_one w4 (.cells #[.int .i64 N, .int .i64 D] 50)
              have Q3 := Q2.to bq
              have b5 := below_to b4 bq
              clear bq b4 Q2
              generalize w4.alloc (.cells #[.int .i64 N, .int .i64 D] 50) = X at *
              generalize w4.heap.size = bxx at *
              have c1 := Q3.cell0 (i := 0) rfl
              have c2 := Q3.cell0 (i := 1) rfl
              go_region_held3 (fun w' => w'.cell? ⟨bxx, 0, none⟩ = some (.int .i64 N) ∧ w'.cell? ⟨bxx, 1, none⟩ = some (.int .i64 D))
                (first | (refine two_put hbx d1 d2 ?_; repeat (first | exact Below.refl _ _ | refine below_drw ?_ | refine below_to ?_ (by assumption))) | (refine twoc d1 d2 ?_; repeat (first | exact Below.refl _ _ | refine below_drw ?_ | refine below_to ?_ (by assumption))))
                ((go_at_call 89; (with_reducible refine (HK.out _).mono ?_); rintro e w6 ⟨rfl, bl6⟩; have E1 := Q3.to (below_to (below_drw (Below.refl _ _)) bl6); have e1 := E1.cell0 (i := 0) rfl; have e2 := E1.cell0 (i := 1) rfl; have f1 := E1.free 0; have f2 := E1.free 1))
              all_goals
                have hc5 := (blk_set2 E1 (.int .i64 N) (.int .i64 D)).cell0 (i := 0) rfl
                have hc6 := (blk_set2 E1 (.int .i64 N) (.int .i64 D)).cell0 (i := 1) rfl
                have b6 := below_to b5 (below_to (below_drw (Below.refl _ _)) bl6)
                go_wp2_with fail
                exact bodyPost_ret (v := .tuple #[.agg #[.int .i64 N, .int .i64 D], .bool R]) (by simp [results, Tryz.results87, go_sem, hc5, hc6]) rfl ⟨by rw [HYS.out.1, HYS.out.2.1, HYS.out.2.2], (b6.setCell (p := ⟨w.heap.size + 1 + 1, 0, none⟩) (Nat.le_add_right _ 2) _).setCell (p := ⟨w.heap.size + 1 + 1, 1, none⟩) (Nat.le_add_right _ 2) _⟩
          by_cases pL : L < 0
          · have y0 : ¬ 0 < L := by omega
            have y1 : IntKind.i64.wrap (-9000000000000000000 - L) = -9000000000000000000 - L := IntWalk.i64_in _ (by omega)
            have y2 : ¬ (M < -9000000000000000000 - L) := by omega
            clear h4 l1 l2 m1 m2 b1 b2 HA1 HA2 HA3 HPO
            have c0_0 := K0.cell0 (i := 0) (v := .int .i64 rN) rfl
            have c0_1 := K0.cell0 (i := 1) (v := .int .i64 rD) rfl
            have c1_0 := K1.cell0 (i := 0) (v := .int .i64 sN) rfl
            have c1_1 := K1.cell0 (i := 1) (v := .int .i64 sD) rfl
            go_enter Tryz.func87, Tryz.ntmps87
            go_wp2_with fail
            generalize (((w.alloc (.cells #[.int .i64 rN, .int .i64 rD] 50)).alloc (.cells #[.int .i64 sN, .int .i64 sD] 50)).alloc (.cells #[.int .i64 0, .int .i64 0] 50)) = V at *
            have bW := below_drw bV
            have K2d := K2.to (below_drw (Below.refl _ _) : Below V.heap.size V V.drew)
            go_region
            all_goals go_wp2_with fail
            all_goals
              refine (HO.out _).mono ?_
              rintro e w4 ⟨rfl, bl4⟩
              have b4 := below_to bW bl4
              have Q2 := K2d.to bl4
              clear bW K2d bl4 HO
              generalize ofN (L + M) B = N at *
              generalize ofD (L + M) B = D at *
              generalize hasR (L + M) B = R at *
              go_wp2_with fail
              have hbx : w.heap.size + 1 + 1 ≠ w4.heap.size := by have := Q2.lt; omega
              obtain ⟨d1, d2, _, _⟩ := two_new w4 (.int .i64 N) (.int .i64 D) 50
              have bq := below_one w4 (.cells #[.int .i64 N, .int .i64 D] 50)
              have Q3 := Q2.to bq
              have b5 := below_to b4 bq
              clear bq b4 Q2
              generalize w4.alloc (.cells #[.int .i64 N, .int .i64 D] 50) = X at *
              generalize w4.heap.size = bxx at *
              have c1 := Q3.cell0 (i := 0) rfl
              have c2 := Q3.cell0 (i := 1) rfl
              go_region_held3 (fun w' => w'.cell? ⟨bxx, 0, none⟩ = some (.int .i64 N) ∧ w'.cell? ⟨bxx, 1, none⟩ = some (.int .i64 D))
                (first | (refine two_put hbx d1 d2 ?_; repeat (first | exact Below.refl _ _ | refine below_drw ?_ | refine below_to ?_ (by assumption))) | (refine twoc d1 d2 ?_; repeat (first | exact Below.refl _ _ | refine below_drw ?_ | refine below_to ?_ (by assumption))))
                ((go_at_call 89; (with_reducible refine (HK.out _).mono ?_); rintro e w6 ⟨rfl, bl6⟩; have E1 := Q3.to (below_to (below_drw (Below.refl _ _)) bl6); have e1 := E1.cell0 (i := 0) rfl; have e2 := E1.cell0 (i := 1) rfl; have f1 := E1.free 0; have f2 := E1.free 1))
              all_goals
                have hc5 := (blk_set2 E1 (.int .i64 N) (.int .i64 D)).cell0 (i := 0) rfl
                have hc6 := (blk_set2 E1 (.int .i64 N) (.int .i64 D)).cell0 (i := 1) rfl
                have b6 := below_to b5 (below_to (below_drw (Below.refl _ _)) bl6)
                go_wp2_with fail
                exact bodyPost_ret (v := .tuple #[.agg #[.int .i64 N, .int .i64 D], .bool R]) (by simp [results, Tryz.results87, go_sem, hc5, hc6]) rfl ⟨by rw [HYS.out.1, HYS.out.2.1, HYS.out.2.2], (b6.setCell (p := ⟨w.heap.size + 1 + 1, 0, none⟩) (Nat.le_add_right _ 2) _).setCell (p := ⟨w.heap.size + 1 + 1, 1, none⟩) (Nat.le_add_right _ 2) _⟩
          · skip
            clear h4 l1 l2 m1 m2 b1 b2 HA1 HA2 HA3 HPO
            have c0_0 := K0.cell0 (i := 0) (v := .int .i64 rN) rfl
            have c0_1 := K0.cell0 (i := 1) (v := .int .i64 rD) rfl
            have c1_0 := K1.cell0 (i := 0) (v := .int .i64 sN) rfl
            have c1_1 := K1.cell0 (i := 1) (v := .int .i64 sD) rfl
            go_enter Tryz.func87, Tryz.ntmps87
            go_wp2_with fail
            generalize (((w.alloc (.cells #[.int .i64 rN, .int .i64 rD] 50)).alloc (.cells #[.int .i64 sN, .int .i64 sD] 50)).alloc (.cells #[.int .i64 0, .int .i64 0] 50)) = V at *
            have bW := below_drw bV
            have K2d := K2.to (below_drw (Below.refl _ _) : Below V.heap.size V V.drew)
            go_region
            all_goals go_wp2_with fail
            all_goals
              refine (HO.out _).mono ?_
              rintro e w4 ⟨rfl, bl4⟩
              have b4 := below_to bW bl4
              have Q2 := K2d.to bl4
              clear bW K2d bl4 HO
              generalize ofN (L + M) B = N at *
              generalize ofD (L + M) B = D at *
              generalize hasR (L + M) B = R at *
              go_wp2_with fail
              have hbx : w.heap.size + 1 + 1 ≠ w4.heap.size := by have := Q2.lt; omega
              obtain ⟨d1, d2, _, _⟩ := two_new w4 (.int .i64 N) (.int .i64 D) 50
              have bq := below_one w4 (.cells #[.int .i64 N, .int .i64 D] 50)
              have Q3 := Q2.to bq
              have b5 := below_to b4 bq
              clear bq b4 Q2
              generalize w4.alloc (.cells #[.int .i64 N, .int .i64 D] 50) = X at *
              generalize w4.heap.size = bxx at *
              have c1 := Q3.cell0 (i := 0) rfl
              have c2 := Q3.cell0 (i := 1) rfl
              go_region_held3 (fun w' => w'.cell? ⟨bxx, 0, none⟩ = some (.int .i64 N) ∧ w'.cell? ⟨bxx, 1, none⟩ = some (.int .i64 D))
                (first | (refine two_put hbx d1 d2 ?_; repeat (first | exact Below.refl _ _ | refine below_drw ?_ | refine below_to ?_ (by assumption))) | (refine twoc d1 d2 ?_; repeat (first | exact Below.refl _ _ | refine below_drw ?_ | refine below_to ?_ (by assumption))))
                ((go_at_call 89; (with_reducible refine (HK.out _).mono ?_); rintro e w6 ⟨rfl, bl6⟩; have E1 := Q3.to (below_to (below_drw (Below.refl _ _)) bl6); have e1 := E1.cell0 (i := 0) rfl; have e2 := E1.cell0 (i := 1) rfl; have f1 := E1.free 0; have f2 := E1.free 1))
              all_goals
                have hc5 := (blk_set2 E1 (.int .i64 N) (.int .i64 D)).cell0 (i := 0) rfl
                have hc6 := (blk_set2 E1 (.int .i64 N) (.int .i64 D)).cell0 (i := 1) rfl
                have b6 := below_to b5 (below_to (below_drw (Below.refl _ _)) bl6)
                go_wp2_with fail
                exact bodyPost_ret (v := .tuple #[.agg #[.int .i64 N, .int .i64 D], .bool R]) (by simp [results, Tryz.results87, go_sem, hc5, hc6]) rfl ⟨by rw [HYS.out.1, HYS.out.2.1, HYS.out.2.2], (b6.setCell (p := ⟨w.heap.size + 1 + 1, 0, none⟩) (Nat.le_add_right _ 2) _).setCell (p := ⟨w.heap.size + 1 + 1, 1, none⟩) (Nat.le_add_right _ 2) _⟩
end Go.Proofs.YtdjjncofahnaaaaGreat
