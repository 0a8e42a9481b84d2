/- The contract of the program's spotAt over the translation. -/
import Derived.Test.YtbdehelcpfkcmaaDoorLcm
namespace Go.Proofs.YtbdehelcpfkcmaaDoor
open Go.RowKit

/-- a struct of two fields that lies at a block -/
def Has2 (W : World) (g : Nat) (a b : Value) : Prop := W.cell? ⟨g, 0, none⟩ = some a ∧ W.cell? ⟨g, 1, none⟩ = some b
theorem has2_new (w : World) (a b : Value) (T : TypeId) : Has2 (w.alloc (.cells #[a, b] T)) w.heap.size a b :=
  ⟨cell_of_row _ _ _ _ _ _ (heap_alloc_new w _), cell_of_row _ _ _ _ _ _ (heap_alloc_new w _)⟩
theorem has2_to {V X : World} {g : Nat} {a b : Value} (hb : Below V.heap.size V X) (p : Has2 V g a b) : Has2 X g a b :=
  ⟨by rw [hb.cell (block_lt_of_cell p.1)]; exact p.1, by rw [hb.cell (block_lt_of_cell p.2)]; exact p.2⟩
theorem has2_lt {V : World} {g : Nat} {a b : Value} (p : Has2 V g a b) : g < V.heap.size := block_lt_of_cell p.1
theorem gS_x0 (n d : Int) : gS n 0 d = Int.gcd n d := by
  unfold gS
  show Nat.gcd (Int.natAbs (Int.gcd n 0 : Int)) d.natAbs = Nat.gcd n.natAbs d.natAbs
  simp
theorem gS_0y (n d : Int) : gS 0 n d = Int.gcd n d := by
  unfold gS
  show Nat.gcd (Int.natAbs (Int.gcd 0 n : Int)) d.natAbs = Nat.gcd n.natAbs d.natAbs
  simp
theorem okS_x0 {n d : Int} (h : okR n d = true) : okS n 0 d = (decide (d ≤ 5000000000) && decide (-(1000 * d) ≤ n) && decide (n ≤ 1000 * d)) := by
  obtain ⟨h1, _, _, _, h5⟩ := (okR_iff _ _).1 h
  rw [Bool.eq_iff_iff, okS_iff, gS_x0]
  simp
  omega
theorem okS_0y {n d : Int} (h : okR n d = true) : okS 0 n d = (decide (d ≤ 5000000000) && decide (-(1000 * d) ≤ n) && decide (n ≤ 1000 * d)) := by
  obtain ⟨h1, _, _, _, h5⟩ := (okR_iff _ _).1 h
  rw [Bool.eq_iff_iff, okS_iff, gS_0y]
  simp
  omega
theorem fit_parts {n1 d1 n2 d2 : Int} (o1 : okR n1 d1 = true) (o2 : okR n2 d2 = true) : fitB n1 d1 n2 d2 = (okS n1 0 d1 && okS 0 n2 d2 && decide (lc d1 d2 ≤ 5000000000)) := by
  rw [okS_x0 o1, okS_0y o2]
  unfold fitB
  rw [Bool.eq_iff_iff]
  simp
  omega
theorem tboxes {w w1 : World} {a b x y p q r : Value} {T U V : TypeId} (hb : Below (((w.alloc (.cells #[a, b] T)).alloc (.cells #[x, y] U)).alloc (.cells #[p, q, r] V)).heap.size (((w.alloc (.cells #[a, b] T)).alloc (.cells #[x, y] U)).alloc (.cells #[p, q, r] V)) w1) :
    Has2 w1 w.heap.size a b ∧ Has2 w1 (w.heap.size + 1) x y ∧ Has3 w1 (w.heap.size + 1 + 1) p q r ∧ Below w.heap.size w w1 := by
  have e1 : (w.alloc (.cells #[a, b] T)).heap.size = w.heap.size + 1 := by simp
  have e2 : ((w.alloc (.cells #[a, b] T)).alloc (.cells #[x, y] U)).heap.size = w.heap.size + 1 + 1 := by simp
  have h1 := has2_new (w.alloc (.cells #[a, b] T)) x y U
  have h2 := has3_new ((w.alloc (.cells #[a, b] T)).alloc (.cells #[x, y] U)) p q r V
  rw [e1] at h1
  rw [e2] at h2
  refine ⟨has2_to (below_to (below_bx2 (below_box _ _) _) hb) (has2_new w a b T), has2_to (below_to (below_box _ _) hb) h1, has3_to hb h2, ?_⟩
  exact below_to (below_bx2 (below_bx2 (below_box w _) _) _) hb

set_option maxHeartbeats 3200000 in
theorem at_spot (n1 d1 n2 d2 : Int) (w : World) (o1 : okR n1 d1 = true) (o2 : okR n2 d2 = true) :
    Calls Tryd.prog 26 #[.agg #[.int .i64 n1, .int .i64 d1], .agg #[.int .i64 n2, .int .i64 d2]] w fun e w' => e = .returned (parS n1 d1 n2 d2) ∧ Below w.heap.size w w' := by
  obtain ⟨a1, a2, a3, a4, _⟩ := (okR_iff _ _).1 o1
  obtain ⟨b1, b2, b3, b4, _⟩ := (okR_iff _ _).1 o2
  have HX := Lib.hid (fun W => impl_sok n1 0 d1 W (by omega) (by omega) (by omega) (by omega) (by omega) (by omega))
  have HY := Lib.hid (fun W => impl_sok 0 n2 d2 W (by omega) (by omega) (by omega) (by omega) (by omega) (by omega))
  have hfit := fit_parts o1 o2
  cases k1 : okS n1 0 d1 with
  | false =>
    rw [show parS n1 d1 n2 d2 = zeroS by unfold parS; rw [hfit, k1]; simp]
    unfold zeroS
    rw [k1] at HX
    clear hfit k1 o1 o2
    go_enter Tryd.func26, Tryd.ntmps26
    go_wp2_with fail
    refine (HX.out _).mono ?_
    rintro e w1 ⟨rfl, bl1⟩
    obtain ⟨_, _, ⟨r0, r1, r2, f0, f1, f2⟩, hbw⟩ := tboxes bl1
    clear bl1
    go_wp2_with fail
    refine bodyPost_ret (v := .tuple #[.agg #[.int .i64 0, .int .i64 0, .int .i64 0], .bool false]) (by simp [results, Tryd.results26, go_sem, r0, r1, r2]) rfl ⟨rfl, ?_⟩
    exact below_set3 _ _ _ hbw (by omega)
  | true =>
    cases k2 : okS 0 n2 d2 with
    | false =>
      rw [show parS n1 d1 n2 d2 = zeroS by unfold parS; rw [hfit, k2]; simp]
      unfold zeroS
      rw [k1] at HX
      rw [k2] at HY
      clear hfit k1 k2 o1 o2
      go_enter Tryd.func26, Tryd.ntmps26
      go_wp2_with fail
      refine (HX.out _).mono ?_
      rintro e w1 ⟨rfl, bl1⟩
      obtain ⟨_, ⟨q0, q1⟩, _, _⟩ := tboxes bl1
      go_wp2_with fail
      refine (HY.out _).mono ?_
      rintro e w2 ⟨rfl, bl2⟩
      clear q0 q1
      obtain ⟨_, _, ⟨r0, r1, r2, f0, f1, f2⟩, hbw⟩ := tboxes (below_to bl1 bl2)
      clear bl1 bl2
      go_wp2_with fail
      refine bodyPost_ret (v := .tuple #[.agg #[.int .i64 0, .int .i64 0, .int .i64 0], .bool false]) (by simp [results, Tryd.results26, go_sem, r0, r1, r2]) rfl ⟨rfl, ?_⟩
      exact below_set3 _ _ _ hbw (by omega)
    | true =>
      rw [okS_x0 o1] at k1
      rw [okS_0y o2] at k2
      simp only [Bool.and_eq_true, decide_eq_true_eq] at k1 k2
      obtain ⟨⟨x1, x2⟩, x3⟩ := k1
      obtain ⟨⟨y1, y2⟩, y3⟩ := k2
      rw [okS_x0 o1, decide_eq_true x1, decide_eq_true x2, decide_eq_true x3] at HX
      rw [okS_0y o2, decide_eq_true y1, decide_eq_true y2, decide_eq_true y3] at HY
      obtain ⟨ha, hb, e4, _, _, _, e6, e7, hg, hg2, hwa, hwb⟩ := lc_facts a1 b1
      have HG := Lib.hid (fun W => impl_gcd d1 d2 W (by omega) (by omega) (by omega) (by omega))
      rw [gcdR_of d1 d2 (by omega) (by omega)] at HG
      have eA : d2 / (Int.gcd d1 d2 : Int) = wa d1 d2 := rfl
      have eB : d1 / (Int.gcd d1 d2 : Int) = wb d1 d2 := rfl
      have hq := gt_iff (b := wa d1 d2) (M := 5000000000) (d := d1) (by omega)
      rw [e7] at hq
      have hQ : 0 ≤ 5000000000 / d1 := Int.ediv_nonneg (by omega) (by omega)
      have hQ2 : 5000000000 / d1 ≤ 5000000000 := Int.ediv_le_self _ (by omega)
      by_cases hl : lc d1 d2 ≤ 5000000000
      · have hf : fitB n1 d1 n2 d2 = true := (fitB_iff _ _ _ _).2 ⟨x1, y1, hl, x2, x3, y2, y3⟩
        have hok := fit_ok o1 o2 hf
        rw [show parS n1 d1 n2 d2 = spotS (n1 * wa d1 d2) (n2 * wb d1 d2) (lc d1 d2) from if_pos hf]
        unfold spotS
        have w1 := wide_in e7 ha x2 x3
        have w2 := wide_in e6 hb y2 y3
        have hL : 1 ≤ lc d1 d2 := ((okS_iff _ _ _).1 hok).1
        have HI := Lib.hid (fun W => if_ok (n1 * wa d1 d2) (n2 * wb d1 d2) (lc d1 d2) W (by omega) (by omega) (by omega) (by omega) (by omega) (by omega))
        rw [hok, kp_t, kp_t, kp_t] at HI
        have eL : d1 * wa d1 d2 = lc d1 d2 := rfl
        have tA : d2.tdiv (Int.gcd d1 d2 : Int) = wa d1 d2 := by rw [Int.tdiv_eq_ediv_of_nonneg (by omega)]; rfl
        have tB : d1.tdiv (Int.gcd d1 d2 : Int) = wb d1 d2 := by rw [Int.tdiv_eq_ediv_of_nonneg (by omega)]; rfl
        have hnl : ¬ 5000000000 / d1 < wa d1 d2 := by rw [hq]; omega
        clear hfit o1 o2 hf hok e4 e6 e7 hq
        generalize e1 : n1 * wa d1 d2 = P at *
        generalize e2 : n2 * wb d1 d2 = Q at *
        generalize lc d1 d2 = L at *
        generalize wa d1 d2 = A at *
        generalize wb d1 d2 = B at *
        generalize ((Int.gcd d1 d2 : Nat) : Int) = g at *
        generalize eq : 5000000000 / d1 = R at *
        have vA : IntKind.i64.wrap A = A := IntWalk.i64_in _ (by omega)
        have vB : IntKind.i64.wrap B = B := IntWalk.i64_in _ (by omega)
        have g0 : (g == 0) = false := eq_z (by omega)
        go_enter Tryd.func26, Tryd.ntmps26
        go_wp2_with fail
        refine (HX.out _).mono ?_
        rintro e w1 ⟨rfl, bl1⟩
        obtain ⟨_, ⟨q0, q1⟩, _, _⟩ := tboxes bl1
        go_wp2_with fail
        refine (HY.out _).mono ?_
        rintro e w2 ⟨rfl, bl2⟩
        clear q0 q1
        obtain ⟨⟨p0, p1⟩, ⟨q0, q1⟩, H3, hbw⟩ := tboxes (below_to bl1 bl2)
        clear bl1 bl2
        go_wp2_with fail
        refine (HG.out _).mono ?_
        rintro e w3 ⟨rfl, k, rfl⟩
        go_wp2_with fail
        go_quiet (fail)
        clear vA vB g0 tA tB eA eB HG
        go_wp2_with fail
        refine (HI.out _).mono ?_
        rintro e w4 ⟨rfl, bl4⟩
        have H4 := has3_to (below_drew (Below.refl _ w2) (k + nq)) H3
        obtain ⟨r0, r1, r2, f0, f1, f2⟩ := has3_to bl4 H4
        have hbz := below_to (below_drew hbw (k + nq)) bl4
        clear p0 p1 q0 q1 H3 H4
        go_wp2_with fail
        refine bodyPost_ret (v := .tuple #[.agg #[.int .i64 P, .int .i64 Q, .int .i64 L], .bool true]) (by simp [results, Tryd.results26, go_sem, r0, r1, r2]) rfl ⟨rfl, ?_⟩
        exact below_set3 _ _ _ hbz (by omega)
      · rw [show parS n1 d1 n2 d2 = zeroS by unfold parS; rw [hfit]; simp [hl]]
        unfold zeroS
        have tA : d2.tdiv (Int.gcd d1 d2 : Int) = wa d1 d2 := by rw [Int.tdiv_eq_ediv_of_nonneg (by omega)]; rfl
        have tB : d1.tdiv (Int.gcd d1 d2 : Int) = wb d1 d2 := by rw [Int.tdiv_eq_ediv_of_nonneg (by omega)]; rfl
        have hnl : 5000000000 / d1 < wa d1 d2 := by rw [hq]; omega
        clear hfit o1 o2 e4 e6 e7 hq hl
        generalize wa d1 d2 = A at *
        generalize wb d1 d2 = B at *
        generalize ((Int.gcd d1 d2 : Nat) : Int) = g at *
        generalize eq : 5000000000 / d1 = R at *
        have vA : IntKind.i64.wrap A = A := IntWalk.i64_in _ (by omega)
        have vB : IntKind.i64.wrap B = B := IntWalk.i64_in _ (by omega)
        have g0 : (g == 0) = false := eq_z (by omega)
        go_enter Tryd.func26, Tryd.ntmps26
        go_wp2_with fail
        refine (HX.out _).mono ?_
        rintro e w1 ⟨rfl, bl1⟩
        obtain ⟨_, ⟨q0, q1⟩, _, _⟩ := tboxes bl1
        go_wp2_with fail
        refine (HY.out _).mono ?_
        rintro e w2 ⟨rfl, bl2⟩
        clear q0 q1
        obtain ⟨⟨p0, p1⟩, ⟨q0, q1⟩, H3, hbw⟩ := tboxes (below_to bl1 bl2)
        clear bl1 bl2
        go_wp2_with fail
        refine (HG.out _).mono ?_
        rintro e w3 ⟨rfl, k, rfl⟩
        go_wp2_with fail
        go_quiet (fail)
        clear vA vB g0 tA tB eA eB HG
        obtain ⟨r0, r1, r2, f0, f1, f2⟩ := id H3
        have hbz := below_drew hbw (k + nq)
        go_wp2_with fail
        refine bodyPost_ret (v := .tuple #[.agg #[.int .i64 0, .int .i64 0, .int .i64 0], .bool false]) (by simp [results, Tryd.results26, go_sem, r0, r1, r2]) rfl ⟨rfl, ?_⟩
        exact below_set3 _ _ _ hbz (by omega)
end Go.Proofs.YtbdehelcpfkcmaaDoor
