/- RatioOf of any fraction with a positive divisor, over the translation. The program's sum of two fractions, over the translation. The sum of two fractions of the program and of the model, over the translation. The model's sum of two fractions, in full, over the translation. -/
import Derived.Test.YtibkmhmeoelpdaaGreatCq
import Derived.Lib.Mul64
import Derived.Laws.Bits64b
import Derived.Test.YtibkmhmeoelpdaaGreatEz
namespace Go.Proofs.YtibkmhmeoelpdaaGreat
open Go.RowKit
open Go.RowKit Go.Shelf

set_option maxHeartbeats 1600000 in
theorem impl_ofn (n d : Int) (T B : Nat) (w : World) (hn : -9223372036854775808 ≤ n) (hn2 : n ≤ 9223372036854775807) (hd : 1 ≤ d) (hd2 : d ≤ 9223372036854775807) (h : ¬ (T ≤ 1000000000000000000 ∧ B ≤ 1000000000000000)) (hT : topR n d = T) (hB : botR n d = B) :
    Calls Tryz.prog 30 #[.int .i64 n, .int .i64 d] w fun e w' => e = .returned (.agg #[.int .i64 0, .int .i64 0]) ∧ Below w.heap.size w w' := by
  have hd0 : (d == 0) = false := eq_z (by omega)
  have hg : 0 < n.natAbs.gcd d.natAbs := Nat.gcd_pos_of_pos_right _ (by omega)
  have HT := Lib.hid (show n.natAbs / n.natAbs.gcd d.natAbs = T from hT)
  have HB := Lib.hid (show d.natAbs / n.natAbs.gcd d.natAbs = B from hB)
  have hp : n.natAbs ≤ 9223372036854775808 := by omega
  have hq : d.natAbs ≤ 9223372036854775808 := by omega
  have HM := Lib.hid (fun W => magn n W hn hn2)
  have HK := Lib.hid (fun W => magn d W (by omega) hd2)
  clear hT hB
  generalize n.natAbs = p at *
  generalize d.natAbs = q at *
  have HG := Lib.hid (fun W => gcd_mag p q W hp hq)
  generalize p.gcd q = g at *
  have hTp : T ≤ 9223372036854775808 := by rw [← HT.out]; exact Nat.le_trans (Nat.div_le_self _ _) hp
  have hBq : B ≤ 9223372036854775808 := by rw [← HB.out]; exact Nat.le_trans (Nat.div_le_self _ _) hq
  have HP := Lib.hid (show (p : Int) / (g : Int) = (T : Int) by rw [← HT.out]; rfl)
  have HQ := Lib.hid (show (q : Int) / (g : Int) = (B : Int) by rw [← HB.out]; rfl)
  clear HT HB
  go_enter Tryz.func30, Tryz.ntmps30
  go_wp2_with fail
  refine (HM.out _).mono ?_
  rintro e w1 ⟨rfl, rfl⟩
  go_wp2_with fail
  refine (HK.out _).mono ?_
  rintro e w1 ⟨rfl, rfl⟩
  go_wp2_with fail
  refine (HG.out _).mono ?_
  rintro e w1 ⟨rfl, k, rfl⟩
  have hg2 : (0 : Int) < (g : Int) := by omega
  go_wp2_with fail
  go_quiet (fail)
  rw [HP.out, HQ.out, IntWalk.u64_in (T : Int) ⟨by omega, by omega⟩, IntWalk.u64_in (B : Int) ⟨by omega, by omega⟩]
  clear HP HQ HM HK HG hg hg2
  by_cases h1 : T ≤ 1000000000000000000
  · have h2 : ¬ B ≤ 1000000000000000 := fun k => h ⟨h1, k⟩
    have c1 : ¬ ((1000000000000000000 : Int) < (T : Int)) := by omega
    have c2 : (1000000000000000 : Int) < (B : Int) := by omega
    clear h
    go_wp2_with fail
    refine bodyPost_ret (v := .agg #[.int .i64 0, .int .i64 0]) (by simp [results, Tryz.results30, go_sem]) rfl ⟨rfl, ?_⟩
    exact ((below_drew (below_box _ _) _).setCell (by simp) _).setCell (by simp) _
  · have c1 : (1000000000000000000 : Int) < (T : Int) := by omega
    clear h
    go_wp2_with fail
    refine bodyPost_ret (v := .agg #[.int .i64 0, .int .i64 0]) (by simp [results, Tryz.results30, go_sem]) rfl ⟨rfl, ?_⟩
    exact ((below_drew (below_box _ _) _).setCell (by simp) _).setCell (by simp) _
/-- RatioOf of n and d, where d is positive -/
def ofN (n d : Int) : Int := if hasR n d = true then sgnR n d else 0
def ofD (n d : Int) : Int := if hasR n d = true then (botR n d : Int) else 0
theorem impl_ofA (n d : Int) (w : World) (hn : -9223372036854775808 ≤ n) (hn2 : n ≤ 9223372036854775807) (hd : 1 ≤ d) (hd2 : d ≤ 9223372036854775807) :
    Calls Tryz.prog 30 #[.int .i64 n, .int .i64 d] w fun e w' => e = .returned (.agg #[.int .i64 (ofN n d), .int .i64 (ofD n d)]) ∧ Below w.heap.size w w' := by
  unfold ofN ofD
  cases h : hasR n d with
  | true => exact impl_of n d _ _ _ w hn hn2 (by omega) hd2 h rfl rfl rfl
  | false =>
    refine impl_ofn n d _ _ w hn hn2 hd hd2 ?_ rfl rfl
    intro k
    rw [(hasR_iff n d).2 ⟨by omega, k.1, k.2⟩] at h
    cases h
theorem div_gcd_le {n : Int} {g : Nat} (_hg : 0 < g) (a : -9223372036854775807 ≤ n) (b : n ≤ 9223372036854775807) : -9223372036854775807 ≤ n.tdiv g ∧ n.tdiv g ≤ 9223372036854775807 := by
  have h := Int.natAbs_tdiv n g
  have k : n.natAbs / (g : Int).natAbs ≤ n.natAbs := Nat.div_le_self _ _
  have e : (n.tdiv g).natAbs ≤ n.natAbs := by rw [h]; exact k
  omega
theorem of_num {n d : Int} (hd : 1 ≤ d) : sgnR n d = n.tdiv (Int.gcd n d) ∧ (botR n d : Int) = d.tdiv (Int.gcd n d) := by
  refine ⟨?_, ?_⟩
  · unfold sgnR topR
    have hd' : decide (d < 0) = false := decide_eq_false (by omega)
    rw [hd']
    show (if (decide (n < 0) != false) = true then -((n.natAbs / Int.gcd n d : Nat) : Int) else ((n.natAbs / Int.gcd n d : Nat) : Int)) = n.tdiv (Int.gcd n d)
    generalize Int.gcd n d = g
    by_cases h : n < 0
    · rw [decide_eq_true h]
      have e : n = -(n.natAbs : Int) := by omega
      conv => rhs; rw [e]
      rw [Int.neg_tdiv, ← Int.ofNat_tdiv]
      simp
    · rw [decide_eq_false h]
      have e : n = (n.natAbs : Int) := by omega
      conv => rhs; rw [e]
      rw [← Int.ofNat_tdiv]
      simp
  · show ((d.natAbs / Int.gcd n d : Nat) : Int) = d.tdiv (Int.gcd n d)
    generalize Int.gcd n d = g
    have e : d = (d.natAbs : Int) := by omega
    conv => rhs; rw [e]
    rw [← Int.ofNat_tdiv]
theorem of_has {n d : Int} (hd : 1 ≤ d) : okR (n.tdiv (Int.gcd n d)) (d.tdiv (Int.gcd n d)) = hasR n d := by
  obtain ⟨e1, e2⟩ := of_num (n := n) hd
  rw [← e1, ← e2]
  cases h : hasR n d with
  | true => exact okR_of n d h
  | false =>
    cases k : okR (sgnR n d) (botR n d) with
    | false => rfl
    | true =>
      rw [okR_iff] at k
      have ht : topR n d ≤ 1000000000000000000 := by
        have := k.2.2.1
        have := k.2.2.2.1
        unfold sgnR at *
        split at * <;> omega
      rw [(hasR_iff n d).2 ⟨by omega, ht, by omega⟩] at h
      cases h
set_option maxHeartbeats 1600000 in
theorem spec_ofA (n d : Int) (w : World) (hn : -9223372036854775807 ≤ n) (hn2 : n ≤ 9223372036854775807) (hd : 1 ≤ d) (hd2 : d ≤ 9223372036854775807) :
    Calls Tryz.prog 92 #[.int .i64 n, .int .i64 d] w fun e w' => e = .returned (.agg #[.int .i64 (ofN n d), .int .i64 (ofD n d)]) ∧ Below w.heap.size w w' := by
  have hg : 0 < Int.gcd n d := Nat.gcd_pos_of_pos_right _ (by omega)
  have HH := Lib.hid (of_has (n := n) hd)
  have HV := Lib.hid (of_num (n := n) hd)
  have HG := Lib.hid (spec_gcd n d · (by omega) (by omega) (by omega) (by omega))
  rw [gcdR_of n d (by omega) (by omega)] at HG
  have hg2 : Int.gcd n d ≤ 9223372036854775807 := Nat.le_trans (Nat.gcd_le_right n.natAbs (by omega : 0 < d.natAbs)) (by omega)
  obtain ⟨lN, uN⟩ := div_gcd_le hg hn hn2
  obtain ⟨lD, uD⟩ := div_gcd_le hg (show -9223372036854775807 ≤ d by omega) hd2
  have HD1 := Lib.hid (Int.tdiv_eq_ediv_of_dvd (Int.gcd_dvd_left n d))
  have HD2 := Lib.hid (Int.tdiv_eq_ediv_of_dvd (Int.gcd_dvd_right n d))
  obtain ⟨RN, hRN⟩ : ∃ x, ofN n d = x := ⟨_, rfl⟩
  obtain ⟨RD, hRD⟩ : ∃ x, ofD n d = x := ⟨_, rfl⟩
  rw [hRN, hRD]
  have HRN := Lib.hid hRN
  have HRD := Lib.hid hRD
  clear hRN hRD
  generalize Int.gcd n d = g at *
  obtain ⟨N, hT⟩ : ∃ N, n.tdiv g = N := ⟨_, rfl⟩
  obtain ⟨D, hTD⟩ : ∃ D, d.tdiv g = D := ⟨_, rfl⟩
  rw [hT] at HH HD1 HV lN uN
  rw [hTD] at HH HD2 HV lD uD
  have hN : n / (g : Int) = N := HD1.out.symm
  have hD : d / (g : Int) = D := HD2.out.symm
  clear HD1 HD2
  have g0 : ((g : Int) == 0) = false := eq_z (by omega)
  have d0 : (d == 0) = false := eq_z (by omega)
  have hg3 : (0 : Int) < (g : Int) := by omega
  have hd' : (0 : Int) < d := by omega
  have dn : ¬ (d < 0) := by omega
  clear hd
  go_enter Tryz.func92, Tryz.ntmps92
  go_wp2_with fail
  refine (HG.out _).mono ?_
  rintro e w1 ⟨rfl, k, rfl⟩
  go_wp2_with fail
  have v0 : IntKind.i64.wrap N = N := IntWalk.i64_in _ (by omega)
  have v1 : IntKind.i64.wrap D = D := IntWalk.i64_in _ (by omega)
  go_region
  clear hN hD hT hTD v0 v1 g0 hg hg2 hg3 HG
  go_wp2_with fail
  cases hh : hasR n d with
  | true =>
    have HO := Lib.hid (HH.out.trans hh)
    refine (spec_ok N D _ (by omega) (by omega) (by omega) (by omega)).mono ?_
    rw [HO.out]
    rintro e w2 ⟨rfl, hb2⟩
    have HE1 := Lib.hid (show RN = N by rw [← HRN.out]; unfold ofN; rw [if_pos hh]; exact HV.out.1)
    have HE2 := Lib.hid (show RD = D by rw [← HRD.out]; unfold ofD; rw [if_pos hh]; exact HV.out.2)
    obtain ⟨p0, p1, p2, p3, f0, f1, hz, hbw⟩ := boxes_drew hb2
    clear hb2 hh
    go_wp2_with fail
    refine bodyPost_ret (v := .agg #[.int .i64 N, .int .i64 D]) (by simp [results, Tryz.results92, go_sem, p0, p1]) rfl ⟨by rw [HE1.out, HE2.out], ?_⟩
    exact (hbw.setCell (by simp) _).setCell (by simp) _
  | false =>
    have HO := Lib.hid (HH.out.trans hh)
    refine (spec_ok N D _ (by omega) (by omega) (by omega) (by omega)).mono ?_
    rw [HO.out]
    rintro e w2 ⟨rfl, hb2⟩
    have HE1 := Lib.hid (show RN = 0 by rw [← HRN.out]; unfold ofN; rw [if_neg (by rw [hh]; simp)])
    have HE2 := Lib.hid (show RD = 0 by rw [← HRD.out]; unfold ofD; rw [if_neg (by rw [hh]; simp)])
    obtain ⟨p0, p1, p2, p3, f0, f1, hz, hbw⟩ := boxes_drew hb2
    clear hb2 hh
    go_wp2_with fail
    refine bodyPost_ret (v := .agg #[.int .i64 0, .int .i64 0]) (by simp [results, Tryz.results92, go_sem, p0, p1]) rfl ⟨by rw [HE1.out, HE2.out], ?_⟩
    exact (hbw.setCell (by simp) _).setCell (by simp) _

end Go.Proofs.YtibkmhmeoelpdaaGreat
