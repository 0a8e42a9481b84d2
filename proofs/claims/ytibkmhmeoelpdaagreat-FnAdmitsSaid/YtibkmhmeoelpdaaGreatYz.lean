/- RatioOf of any fraction with a positive divisor, over the translation. The program's sum of two fractions, over the translation. The sum of two fractions of the program and of the model, over the translation. The model's sum of two fractions, in full, over the translation. -/
import Derived.Test.YtibkmhmeoelpdaaGreatCq
import Derived.Lib.Mul64
import Derived.Laws.Bits64b
import Derived.Test.YtibkmhmeoelpdaaGreatEs
namespace Go.Proofs.YtibkmhmeoelpdaaGreat
open Go.RowKit
open Go.RowKit Go.Shelf

set_option maxHeartbeats 1600000 in
theorem impl_ofn (n d : Int) (T B : Nat) (w : World) (hn : -9223372036854775808 ≤ n) (hn2 : n ≤ 9223372036854775807) (hd : 1 ≤ d) (hd2 : d ≤ 9223372036854775807) (h : ¬ (T ≤ 1000000000000000000 ∧ B ≤ 1000000000000000)) (hT : topR n d = T) (hB : botR n d = B) :
    Calls Tryz.prog 30 #[.int .i64 n, .int .i64 d] w fun e w' => e = .returned (.agg #[.int .i64 0, .int .i64 0]) ∧ Below w.heap.size w w' := by
  have hd0 : (d == 0) = false := eq_z (by omega)
  have hg : 0 < n.natAbs.gcd d.natAbs := Nat.gcd_pos_of_pos_right _ (by omega)
  have HT := Lib.hid (show n.natAbs / n.natAbs.gcd d.natAbs = T from hT)
  have HB := Lib.hid (show d.natAbs / n.natAbs.gcd d.natAbs = B from hB)
  have hp : n.natAbs ≤ 9223372036854775808 := by omega
  have hq : d.natAbs ≤ 9223372036854775808 := by omega
  have HM := Lib.hid (fun W => magn n W hn hn2)
  have HK := Lib.hid (fun W => magn d W (by omega) hd2)
  clear hT hB
  generalize n.natAbs = p at *
  generalize d.natAbs = q at *
  have HG := Lib.hid (fun W => gcd_mag p q W hp hq)
  generalize p.gcd q = g at *
  have hTp : T ≤ 9223372036854775808 := by rw [← HT.out]; exact Nat.le_trans (Nat.div_le_self _ _) hp
  have hBq : B ≤ 9223372036854775808 := by rw [← HB.out]; exact Nat.le_trans (Nat.div_le_self _ _) hq
  have HP := Lib.hid (show (p : Int) / (g : Int) = (T : Int) by rw [← HT.out]; rfl)
  have HQ := Lib.hid (show (q : Int) / (g : Int) = (B : Int) by rw [← HB.out]; rfl)
  clear HT HB
  go_enter Tryz.func30, Tryz.ntmps30
  go_wp2_with fail
  refine (HM.out _).mono ?_
  rintro e w1 ⟨rfl, rfl⟩
  go_wp2_with fail
  refine (HK.out _).mono ?_
  rintro e w1 ⟨rfl, rfl⟩
  go_wp2_with fail
  refine (HG.out _).mono ?_
  rintro e w1 ⟨rfl, k, rfl⟩
  have hg2 : (0 : Int) < (g : Int) := by omega
  go_wp2_with fail
  go_quiet (fail)
  rw [HP.out, HQ.out, IntWalk.u64_in (T : Int) ⟨by omega, by omega⟩, IntWalk.u64_in (B : Int) ⟨by omega, by omega⟩]
  clear HP HQ HM HK HG hg hg2
  by_cases h1 : T ≤ 1000000000000000000
  · have h2 : ¬ B ≤ 1000000000000000 := fun k => h ⟨h1, k⟩
    have c1 : ¬ ((1000000000000000000 : Int) < (T : Int)) := by omega
    have c2 : (1000000000000000 : Int) < (B : Int) := by omega
    clear h
    go_wp2_with fail
    refine bodyPost_ret (v := .agg #[.int .i64 0, .int .i64 0]) (by simp [results, Tryz.results30, go_sem]) rfl ⟨rfl, ?_⟩
    exact ((below_drew (below_box _ _) _).setCell (by simp) _).setCell (by simp) _
  · have c1 : (1000000000000000000 : Int) < (T : Int) := by omega
    clear h
    go_wp2_with fail
    refine bodyPost_ret (v := .agg #[.int .i64 0, .int .i64 0]) (by simp [results, Tryz.results30, go_sem]) rfl ⟨rfl, ?_⟩
    exact ((below_drew (below_box _ _) _).setCell (by simp) _).setCell (by simp) _
/-- RatioOf of n and d, where d is positive -/
def ofN (n d : Int) : Int := if hasR n d = true then sgnR n d else 0
def ofD (n d : Int) : Int := if hasR n d = true then (botR n d : Int) else 0
theorem impl_ofA (n d : Int) (w : World) (hn : -9223372036854775808 ≤ n) (hn2 : n ≤ 9223372036854775807) (hd : 1 ≤ d) (hd2 : d ≤ 9223372036854775807) :
    Calls Tryz.prog 30 #[.int .i64 n, .int .i64 d] w fun e w' => e = .returned (.agg #[.int .i64 (ofN n d), .int .i64 (ofD n d)]) ∧ Below w.heap.size w w' := by
  unfold ofN ofD
  cases h : hasR n d with
  | true => exact impl_of n d _ _ _ w hn hn2 (by omega) hd2 h rfl rfl rfl
  | false =>
    refine impl_ofn n d _ _ w hn hn2 hd hd2 ?_ rfl rfl
    intro k
    rw [(hasR_iff n d).2 ⟨by omega, k.1, k.2⟩] at h
    cases h
theorem of_num {n d : Int} (hd : 1 ≤ d) : sgnR n d = n.tdiv (Int.gcd n d) ∧ (botR n d : Int) = d.tdiv (Int.gcd n d) := by
  refine ⟨?_, ?_⟩
  · unfold sgnR topR
    have hd' : decide (d < 0) = false := decide_eq_false (by omega)
    rw [hd']
    show (if (decide (n < 0) != false) = true then -((n.natAbs / Int.gcd n d : Nat) : Int) else ((n.natAbs / Int.gcd n d : Nat) : Int)) = n.tdiv (Int.gcd n d)
    generalize Int.gcd n d = g
    by_cases h : n < 0
    · rw [decide_eq_true h]
      have e : n = -(n.natAbs : Int) := by omega
      conv => rhs; rw [e]
      rw [Int.neg_tdiv, ← Int.ofNat_tdiv]
      simp
    · rw [decide_eq_false h]
      have e : n = (n.natAbs : Int) := by omega
      conv => rhs; rw [e]
      rw [← Int.ofNat_tdiv]
      simp
  · show ((d.natAbs / Int.gcd n d : Nat) : Int) = d.tdiv (Int.gcd n d)
    generalize Int.gcd n d = g
    have e : d = (d.natAbs : Int) := by omega
    conv => rhs; rw [e]
    rw [← Int.ofNat_tdiv]
theorem of_has {n d : Int} (hd : 1 ≤ d) : okR (n.tdiv (Int.gcd n d)) (d.tdiv (Int.gcd n d)) = hasR n d := by
  obtain ⟨e1, e2⟩ := of_num (n := n) hd
  rw [← e1, ← e2]
  cases h : hasR n d with
  | true => exact okR_of n d h
  | false =>
    cases k : okR (sgnR n d) (botR n d) with
    | false => rfl
    | true =>
      rw [okR_iff] at k
      have ht : topR n d ≤ 1000000000000000000 := by
        have := k.2.2.1
        have := k.2.2.2.1
        unfold sgnR at *
        split at * <;> omega
      rw [(hasR_iff n d).2 ⟨by omega, ht, by omega⟩] at h
      cases h
end Go.Proofs.YtibkmhmeoelpdaaGreat
