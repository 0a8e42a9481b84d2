/- The contract of the program's RatioOf and of the model's, where there is a valid fraction, over the translation. -/
import Derived.Test.YtefafkainfhhkaaQty
namespace Go.Proofs.Ytefafkainfhhkaa
open Go.RowKit

theorem heap_blw {w w' : World} {g : Nat} {o : Obj} (hb : Below w.heap.size w w') (h : w.heap[g]? = some o) : w'.heap[g]? = some o := by
  rw [hb.block g (lt_of_block h)]; exact h
theorem boxes_drew {w w1 : World} {a b c d : Value} {T U : TypeId} {k : Nat} (hb : Below (((w.alloc (.cells #[a, b] T)).drewN k).alloc (.cells #[c, d] U)).heap.size (((w.alloc (.cells #[a, b] T)).drewN k).alloc (.cells #[c, d] U)) w1) :
    w1.cell? ⟨w.heap.size, 0, none⟩ = some a ∧ w1.cell? ⟨w.heap.size, 1, none⟩ = some b ∧ w1.cell? ⟨w.heap.size + 1, 0, none⟩ = some c ∧ w1.cell? ⟨w.heap.size + 1, 1, none⟩ = some d ∧
    w1.frozen? ⟨w.heap.size, 0, none⟩ = false ∧ w1.frozen? ⟨w.heap.size, 1, none⟩ = false ∧ w.heap.size + 1 < w1.heap.size ∧ Below w.heap.size w w1 := by
  have h0 : ((w.alloc (.cells #[a, b] T)).drewN k).heap[w.heap.size]? = some (.cells #[a, b] T (0, 0)) := heap_alloc_new w _
  have h1 := heap_alloc_new ((w.alloc (.cells #[a, b] T)).drewN k) (.cells #[c, d] U)
  have e : ((w.alloc (.cells #[a, b] T)).drewN k).heap.size = w.heap.size + 1 := by simp
  rw [e] at h1
  have b0 := below_box ((w.alloc (.cells #[a, b] T)).drewN k) (.cells #[c, d] U)
  have h0' := heap_blw hb (heap_blw b0 h0)
  have h1' := heap_blw hb h1
  refine ⟨cell_of_row _ _ 0 _ _ _ h0', cell_of_row _ _ 1 _ _ _ h0', cell_of_row _ _ 0 _ _ _ h1', cell_of_row _ _ 1 _ _ _ h1', frozen_of_row _ _ 0 _ _ h0', frozen_of_row _ _ 1 _ _ h0', lt_of_block h1', ?_⟩
  have c0 := below_drew (below_box w (.cells #[a, b] T)) k
  have c1 := c0.trans (b0.mono c0.size)
  exact c1.trans (hb.mono c1.size)
theorem ne_t {a b : Bool} (h : (a != b) = true) : (!a == b) = true := by cases a <;> cases b <;> simp_all
theorem ne_f {a b : Bool} (h : ¬ (a != b) = true) : (!a == b) = false := by cases a <;> cases b <;> simp_all
theorem eq_z {a b : Int} (h : a ≠ b) : (a == b) = false := by simpa using h

set_option maxHeartbeats 1600000 in
theorem impl_of (n d N : Int) (T B : Nat) (w : World) (hn : -9223372036854775808 ≤ n) (hn2 : n ≤ 9223372036854775807) (hd : -9223372036854775808 ≤ d) (hd2 : d ≤ 9223372036854775807) (h : hasR n d = true) (hN : sgnR n d = N) (hT : topR n d = T) (hB : botR n d = B) :
    Calls Try.prog 94 #[.int .i64 n, .int .i64 d] w fun e w' => e = .returned (.agg #[.int .i64 N, .int .i64 B]) ∧ Below w.heap.size w w' := by
  obtain ⟨h0, h1, h2⟩ := (hasR_iff n d).1 h
  have hd0 := eq_z h0
  rw [hT] at h1
  rw [hB] at h2
  have hg : 0 < n.natAbs.gcd d.natAbs := Nat.gcd_pos_of_pos_right _ (by omega)
  have HT := Lib.hid (show n.natAbs / n.natAbs.gcd d.natAbs = T from hT)
  have HB := Lib.hid (show d.natAbs / n.natAbs.gcd d.natAbs = B from hB)
  have hp : n.natAbs ≤ 9223372036854775808 := by omega
  have hq : d.natAbs ≤ 9223372036854775808 := by omega
  have HN := Lib.hid hN
  unfold sgnR at HN
  rw [hT] at HN
  have HM := Lib.hid (fun W => magn n W hn hn2)
  have HK := Lib.hid (fun W => magn d W hd hd2)
  clear h hT hB hN h0
  generalize n.natAbs = p at *
  generalize d.natAbs = q at *
  have HG := Lib.hid (fun W => gcd_mag p q W hp hq)
  generalize p.gcd q = g at *
  have HP := Lib.hid (show (p : Int) / (g : Int) = (T : Int) by rw [← HT.out]; rfl)
  have HQ := Lib.hid (show (q : Int) / (g : Int) = (B : Int) by rw [← HB.out]; rfl)
  clear HT HB
  by_cases hs : (decide (n < 0) != decide (d < 0)) = true
  · rw [if_pos hs] at HN
    have hs2 := ne_t hs
    clear hs
    obtain rfl := HN.out
    clear HN
    go_enter Try.func94, Try.ntmps94
    go_wp2_with fail
    refine (HM.out _).mono ?_
    rintro e w1 ⟨rfl, rfl⟩
    go_wp2_with fail
    refine (HK.out _).mono ?_
    rintro e w1 ⟨rfl, rfl⟩
    go_wp2_with fail
    refine (HG.out _).mono ?_
    rintro e w1 ⟨rfl, k, rfl⟩
    have hg2 : (0 : Int) < (g : Int) := by omega
    go_wp2_with fail
    go_quiet (fail)
    rw [HP.out, HQ.out, IntWalk.u64_in (T : Int) ⟨by omega, by omega⟩, IntWalk.u64_in (B : Int) ⟨by omega, by omega⟩]
    clear HP HQ HM HK HG hg hg2
    go_wp2_with fail
    refine bodyPost_ret (v := .agg #[.int .i64 (-(T : Int)), .int .i64 B]) (by simp [results, Try.results94, go_sem]) rfl ⟨rfl, ?_⟩
    exact ((below_drew (below_box _ _) _).setCell (by simp) _).setCell (by simp) _
  · rw [if_neg hs] at HN
    have hs2 := ne_f hs
    clear hs
    obtain rfl := HN.out
    clear HN
    go_enter Try.func94, Try.ntmps94
    go_wp2_with fail
    refine (HM.out _).mono ?_
    rintro e w1 ⟨rfl, rfl⟩
    go_wp2_with fail
    refine (HK.out _).mono ?_
    rintro e w1 ⟨rfl, rfl⟩
    go_wp2_with fail
    refine (HG.out _).mono ?_
    rintro e w1 ⟨rfl, k, rfl⟩
    have hg2 : (0 : Int) < (g : Int) := by omega
    go_wp2_with fail
    go_quiet (fail)
    rw [HP.out, HQ.out, IntWalk.u64_in (T : Int) ⟨by omega, by omega⟩, IntWalk.u64_in (B : Int) ⟨by omega, by omega⟩]
    clear HP HQ HM HK HG hg hg2
    go_wp2_with fail
    refine bodyPost_ret (v := .agg #[.int .i64 T, .int .i64 B]) (by simp [results, Try.results94, go_sem]) rfl ⟨rfl, ?_⟩
    exact ((below_drew (below_box _ _) _).setCell (by simp) _).setCell (by simp) _

set_option maxHeartbeats 1600000 in
theorem spec_of (n d N D : Int) (w : World) (hn : -1000000000000000000 ≤ n) (hn2 : n ≤ 1000000000000000000) (hd : 0 < d) (hd2 : d ≤ 1000000000000000000) (hN : n / (Int.gcd n d : Int) = N) (hD : d / (Int.gcd n d : Int) = D) (hN0 : -1000000000000000000 ≤ N) (hN1 : N ≤ 1000000000000000000) (hD0 : -1000000000000000000 ≤ D) (hD1 : D ≤ 1000000000000000000) (hT : n.tdiv (Int.gcd n d : Int) = N) (hok : okR N D = true) :
    Calls Try.prog 93 #[.int .i64 n, .int .i64 d] w fun e w' => e = .returned (.agg #[.int .i64 N, .int .i64 D]) ∧ Below w.heap.size w w' := by
  have hg : 0 < Int.gcd n d := Nat.gcd_pos_of_pos_right _ (by omega)
  have HG := Lib.hid (spec_gcd n d · (by omega) (by omega) (by omega) (by omega))
  rw [gcdR_of n d (by omega) (by omega)] at HG
  have hg2 : Int.gcd n d ≤ 1000000000000000000 := Nat.le_trans (Nat.gcd_le_right n.natAbs (by omega : 0 < d.natAbs)) (by omega)
  generalize Int.gcd n d = g at *
  have HO := Lib.hid hok
  clear hok
  have g0 : ((g : Int) == 0) = false := eq_z (by omega)
  have d0 : (d == 0) = false := eq_z (by omega)
  have hg3 : (0 : Int) < (g : Int) := by omega
  go_enter Try.func93, Try.ntmps93
  go_wp2_with fail
  refine (HG.out _).mono ?_
  rintro e w1 ⟨rfl, k, rfl⟩
  go_wp2_with fail
  have v0 : IntKind.i64.wrap N = N := IntWalk.i64_in _ (by omega)
  have v1 : IntKind.i64.wrap D = D := IntWalk.i64_in _ (by omega)
  go_region
  rw [hD]
  clear hN hD hT v0 v1 g0 hg hg2 hg3 HG
  go_wp2_with fail
  refine (spec_ok N D _ (by omega) (by omega) (by omega) (by omega)).mono ?_
  rw [HO.out]
  rintro e w2 ⟨rfl, hb2⟩
  obtain ⟨p0, p1, p2, p3, f0, f1, hz, hbw⟩ := boxes_drew hb2
  clear hb2
  go_wp2_with fail
  refine bodyPost_ret (v := .agg #[.int .i64 N, .int .i64 D]) (by simp [results, Try.results93, go_sem, p0, p1]) rfl ⟨rfl, ?_⟩
  exact (hbw.setCell (by simp) _).setCell (by simp) _
end Go.Proofs.Ytefafkainfhhkaa
