/- MeetSpans of the model, over the translation. PickInput of the model, over the translation. Spans as sets of fractions: meets, picked inputs and whole numbers (no calls). -/
import Derived.Test.YtibkmhmeoelpdaaGreatFa
import Derived.Test.YtibkmhmeoelpdaaGreatMw
import Derived.Test.YtibkmhmeoelpdaaGreatYz
namespace Go.Proofs.YtibkmhmeoelpdaaGreat
open Go.RowKit
open Geo (H3)
theorem blk_s4 {W : World} {B : Nat} {t : TypeId} {a0 a1 a2 a3 : Value} (h : W.heap[B]? = some (.cells #[a0, a1, a2, a3] t (0, 0))) (u v x y : Value) : ((((W.setCell ⟨B, 0, none⟩ u).setCell ⟨B, 1, none⟩ v).setCell ⟨B, 2, none⟩ x).setCell ⟨B, 3, none⟩ y).heap[B]? = some (.cells #[u, v, x, y] t (0, 0)) :=
  heap_setCell_same _ B 3 _ t y (heap_setCell_same _ B 2 _ t x (heap_setCell_same _ B 1 _ t v (heap_setCell_same W B 0 _ t u h)))
open Go.RowKit
open Geo (H3)
theorem one_of {n : Int} (h : -1000000000000000000 ≤ n ∧ n ≤ 1000000000000000000) : ofN n 1 = n ∧ ofD n 1 = 1 ∧ okR n 1 = true := by
  have hg : Int.gcd n 1 = 1 := by simp
  have hR : hasR n 1 = true := by
    rw [hasR_iff]
    unfold topR botR
    rw [hg]
    simp
    omega
  obtain ⟨e1, e2⟩ := of_num (n := n) (d := 1) (by omega)
  rw [hg] at e1 e2
  simp at e1 e2
  refine ⟨by unfold ofN; rw [if_pos hR, e1], by unfold ofD; rw [if_pos hR]; exact_mod_cast e2, ?_⟩
  rw [okR_iff]
  exact ⟨by omega, by omega, h.1, h.2, hg⟩
open Go.RowKit
open Geo (H3)
theorem okR_pos {a b : Int} (h : okR a b = true) : 1 ≤ b := ((okR_iff _ _).1 h).1
theorem fr_eq {a b c d : Int} (h : okR a b = true) (k : okR c d = true) (e : a * d = c * b) : a = c ∧ b = d := by
  obtain ⟨b1, _, _, _, g1⟩ := (okR_iff _ _).1 h
  obtain ⟨d1, _, _, _, g2⟩ := (okR_iff _ _).1 k
  have key : ∀ x y z : Int, Int.gcd x y = 1 → y ∣ x * z → y ∣ z := by
    intro x y z g h
    have h2 := Int.natAbs_dvd_natAbs.2 h
    rw [Int.natAbs_mul] at h2
    have g2 : Nat.Coprime y.natAbs x.natAbs := by
      unfold Nat.Coprime
      rw [Nat.gcd_comm]
      exact g
    exact Int.natAbs_dvd_natAbs.1 (g2.dvd_of_dvd_mul_left h2)
  have p1 : b ∣ d := key a b d g1 ⟨c, by rw [e, Int.mul_comm]⟩
  have p2 : d ∣ b := key c d b g2 ⟨a, by rw [← e, Int.mul_comm]⟩
  have e1 : b = d := Int.dvd_antisymm (by omega) (by omega) p1 p2
  subst e1
  exact ⟨Int.eq_of_mul_eq_mul_right (by omega) e, rfl⟩
theorem max_no {a b c d : Int} (h : ¬ (okR a b = true ∧ okR c d = true)) : maxP a b c d = (0, 0) := by unfold maxP; rw [if_neg h]
theorem min_no {a b c d : Int} (h : ¬ (okR a b = true ∧ okR c d = true)) : minP a b c d = (0, 0) := by unfold minP; rw [if_neg h]
theorem ok_00 : okR 0 0 = false := by
  rw [Bool.eq_false_iff]
  intro h
  have := okR_pos h
  omega
theorem one_ok {n : Int} (h : -1000 ≤ n ∧ n ≤ 1000) : okR n 1 = true := (one_of (n := n) (by omega)).2.2
end Go.Proofs.YtibkmhmeoelpdaaGreat
