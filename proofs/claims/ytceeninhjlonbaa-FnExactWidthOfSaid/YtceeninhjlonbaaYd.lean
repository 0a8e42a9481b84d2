/- The model's sum of two fractions, in full, over the translation. -/
import Derived.Test.YtceeninhjlonbaaYc
namespace Go.Proofs.Ytceeninhjlonbaa
open Go.RowKit Go.Shelf

theorem lp_quo {a d : Int} (hd : 1 ≤ d) : decide ((9000000000000000000 : Int).tdiv d < max a (-a)) = !lpB a d := by
  unfold lpB
  have e : max a (-a) = (a.natAbs : Int) := by omega
  obtain ⟨k, rfl⟩ : ∃ k : Nat, d = (k : Int) := ⟨d.toNat, by omega⟩
  have hk : 0 < k := by omega
  rw [e, Int.natAbs_natCast, show (9000000000000000000 : Int).tdiv (k : Int) = ((9000000000000000000 / k : Nat) : Int) from (Int.ofNat_tdiv 9000000000000000000 k).symm]
  rw [Bool.eq_iff_iff]
  simp only [decide_eq_true_eq, Bool.not_eq_true', decide_eq_false_iff_not]
  rw [← Nat.le_div_iff_mul_le hk]
  omega
theorem lp_quo1 {a d : Int} (hd : 1 ≤ d) (ha : 1 ≤ a) : decide ((9000000000000000000 : Int).tdiv d < a) = !lpB a d := by
  rw [← lp_quo hd, show max a (-a) = a by omega]
theorem quo_rng {d : Int} (hd : 1 ≤ d) : 0 ≤ (9000000000000000000 : Int).tdiv d ∧ (9000000000000000000 : Int).tdiv d ≤ 9000000000000000000 := by
  obtain ⟨k, rfl⟩ : ∃ k : Nat, d = (k : Int) := ⟨d.toNat, by omega⟩
  rw [show (9000000000000000000 : Int).tdiv (k : Int) = ((9000000000000000000 / k : Nat) : Int) from (Int.ofNat_tdiv 9000000000000000000 k).symm]
  have := Nat.div_le_self 9000000000000000000 k
  generalize 9000000000000000000 / k = m at *
  omega
set_option maxRecDepth 100000 in
set_option maxHeartbeats 3200000 in
theorem spec_sumA (rN rD sN sD : Int) (w : World) (hr : okR rN rD = true) (hs : okR sN sD = true) :
    Calls Try.prog 78 #[.agg #[.int .i64 rN, .int .i64 rD], .agg #[.int .i64 sN, .int .i64 sD]] w fun e w' => e = .returned (.tuple #[.agg #[.int .i64 (smN rN rD sN sD), .int .i64 (smD rN rD sN sD)], .bool (smB rN rD sN sD)]) ∧ Below w.heap.size w w' := by
  have kr := (okR_iff _ _).1 hr
  have ks := (okR_iff _ _).1 hs
  clear hr hs
  have bV := below_bx2 (below_bx2 (below_one w (.cells #[.int .i64 rN, .int .i64 rD] 43)) (.cells #[.int .i64 sN, .int .i64 sD] 43)) (.cells #[.int .i64 0, .int .i64 0] 43)
  have K0 := ((blk_new w #[.int .i64 rN, .int .i64 rD] 43 (b := w.heap.size) (by simp)).to (below_one _ (.cells #[.int .i64 sN, .int .i64 sD] 43))).to (below_one _ (.cells #[.int .i64 0, .int .i64 0] 43))
  have K1 := (blk_new (w.alloc (.cells #[.int .i64 rN, .int .i64 rD] 43)) #[.int .i64 sN, .int .i64 sD] 43 (b := w.heap.size + 1) (by simp)).to (below_one _ (.cells #[.int .i64 0, .int .i64 0] 43))
  have K2 := blk_new ((w.alloc (.cells #[.int .i64 rN, .int .i64 rD] 43)).alloc (.cells #[.int .i64 sN, .int .i64 sD] 43)) #[.int .i64 0, .int .i64 0] 43 (b := w.heap.size + 1 + 1) (by simp)
  have X1 := Lib.hid (lp_quo (a := rN) ks.1)
  have X2 := Lib.hid (lp_quo (a := sN) kr.1)
  have X3 := Lib.hid (lp_quo1 (a := rD) ks.1 kr.1)
  obtain ⟨qa, qb⟩ := quo_rng ks.1
  obtain ⟨qc, qd⟩ := quo_rng kr.1
  have HPO := Lib.hid (lp_pos kr.1 ks.1)
  have v1 : IntKind.i64.wrap (-rN) = -rN := IntWalk.i64_in _ (by omega)
  have v2 : IntKind.i64.wrap (-sN) = -sN := IntWalk.i64_in _ (by omega)
  have v3 : IntKind.i64.wrap 9000000000000000000 = 9000000000000000000 := by decide
  have v30 : IntKind.i64.wrap (-9000000000000000000) = -9000000000000000000 := by decide
  have hD0 : ¬ sD = 0 := by omega
  have hR0 : ¬ rD = 0 := by omega
  clear kr ks
  generalize eq1 : (9000000000000000000 : Int).tdiv sD = q1 at *
  generalize eq2 : (9000000000000000000 : Int).tdiv rD = q2 at *
  have v4 : IntKind.i64.wrap q1 = q1 := IntWalk.i64_in _ (by omega)
  have v5 : IntKind.i64.wrap q2 = q2 := IntWalk.i64_in _ (by omega)
  clear qa qb qc qd
  have HYY := Lib.hid (fun h => sm_yes (rN := rN) (rD := rD) (sN := sN) (sD := sD) h)
  obtain ⟨RN, hRN⟩ : ∃ x, smN rN rD sN sD = x := ⟨_, rfl⟩
  obtain ⟨RD, hRD⟩ : ∃ x, smD rN rD sN sD = x := ⟨_, rfl⟩
  obtain ⟨RB, hRB⟩ : ∃ x, smB rN rD sN sD = x := ⟨_, rfl⟩
  rw [hRN, hRD, hRB]
  have HRN := Lib.hid hRN
  have HRD := Lib.hid hRD
  have HRB := Lib.hid hRB
  clear hRN hRD hRB
  rw [HRN.out, HRD.out, HRB.out] at HYY
  cases h1 : lpB rN sD with
  | false =>
    have HC := Lib.hid (show smC rN rD sN sD = false by unfold smC; rw [h1]; simp)
    have x1 := X1.out
    rw [h1] at x1
    simp only [Bool.not_false] at x1
    clear HYY HPO h1
    have c0_0 := K0.cell0 (i := 0) (v := .int .i64 rN) rfl
    have c0_1 := K0.cell0 (i := 1) (v := .int .i64 rD) rfl
    have c1_0 := K1.cell0 (i := 0) (v := .int .i64 sN) rfl
    have c1_1 := K1.cell0 (i := 1) (v := .int .i64 sD) rfl
    go_enter Try.func78, Try.ntmps78
    go_wp2_with fail
    generalize (((w.alloc (.cells #[.int .i64 rN, .int .i64 rD] 43)).alloc (.cells #[.int .i64 sN, .int .i64 sD] 43)).alloc (.cells #[.int .i64 0, .int .i64 0] 43)) = V at *
    have g1 := K2.cell0 (i := 0) rfl
    have g2 := K2.cell0 (i := 1) rfl
    have f1 := K2.free 0
    have f2 := K2.free 1
    have hc5 := (blk_set2 K2 (.int .i64 0) (.int .i64 0)).cell0 (i := 0) rfl
    have hc6 := (blk_set2 K2 (.int .i64 0) (.int .i64 0)).cell0 (i := 1) rfl
    go_region
    all_goals
      have HNO0 := sm_no HC.out
      rw [HRN.out, HRD.out, HRB.out] at HNO0
      have HNO := Lib.hid HNO0
      clear HNO0
      go_wp2_with fail
      exact bodyPost_ret (v := .tuple #[.agg #[.int .i64 0, .int .i64 0], .bool false]) (by simp [results, Try.results78, go_sem, hc5, hc6]) rfl ⟨by rw [HNO.out.1, HNO.out.2.1, HNO.out.2.2], by first | with_reducible exact ((below_drw bV).setCell (p := ⟨w.heap.size + 1 + 1, 0, none⟩) (Nat.le_add_right _ 2) _).setCell (p := ⟨w.heap.size + 1 + 1, 1, none⟩) (Nat.le_add_right _ 2) _ | with_reducible exact below_drw ((bV.setCell (p := ⟨w.heap.size + 1 + 1, 0, none⟩) (Nat.le_add_right _ 2) _).setCell (p := ⟨w.heap.size + 1 + 1, 1, none⟩) (Nat.le_add_right _ 2) _)⟩
  | true =>
    cases h2 : lpB sN rD with
    | false =>
      have HC := Lib.hid (show smC rN rD sN sD = false by unfold smC; rw [h2]; simp)
      have x1 := X1.out
      rw [h1] at x1
      simp only [Bool.not_true] at x1
      have x2 := X2.out
      rw [h2] at x2
      simp only [Bool.not_false] at x2
      clear HYY HPO h1 h2
      have c0_0 := K0.cell0 (i := 0) (v := .int .i64 rN) rfl
      have c0_1 := K0.cell0 (i := 1) (v := .int .i64 rD) rfl
      have c1_0 := K1.cell0 (i := 0) (v := .int .i64 sN) rfl
      have c1_1 := K1.cell0 (i := 1) (v := .int .i64 sD) rfl
      go_enter Try.func78, Try.ntmps78
      go_wp2_with fail
      generalize (((w.alloc (.cells #[.int .i64 rN, .int .i64 rD] 43)).alloc (.cells #[.int .i64 sN, .int .i64 sD] 43)).alloc (.cells #[.int .i64 0, .int .i64 0] 43)) = V at *
      have g1 := K2.cell0 (i := 0) rfl
      have g2 := K2.cell0 (i := 1) rfl
      have f1 := K2.free 0
      have f2 := K2.free 1
      have hc5 := (blk_set2 K2 (.int .i64 0) (.int .i64 0)).cell0 (i := 0) rfl
      have hc6 := (blk_set2 K2 (.int .i64 0) (.int .i64 0)).cell0 (i := 1) rfl
      go_region
      all_goals
        have HNO0 := sm_no HC.out
        rw [HRN.out, HRD.out, HRB.out] at HNO0
        have HNO := Lib.hid HNO0
        clear HNO0
        go_wp2_with fail
        exact bodyPost_ret (v := .tuple #[.agg #[.int .i64 0, .int .i64 0], .bool false]) (by simp [results, Try.results78, go_sem, hc5, hc6]) rfl ⟨by rw [HNO.out.1, HNO.out.2.1, HNO.out.2.2], by first | with_reducible exact ((below_drw bV).setCell (p := ⟨w.heap.size + 1 + 1, 0, none⟩) (Nat.le_add_right _ 2) _).setCell (p := ⟨w.heap.size + 1 + 1, 1, none⟩) (Nat.le_add_right _ 2) _ | with_reducible exact below_drw ((bV.setCell (p := ⟨w.heap.size + 1 + 1, 0, none⟩) (Nat.le_add_right _ 2) _).setCell (p := ⟨w.heap.size + 1 + 1, 1, none⟩) (Nat.le_add_right _ 2) _)⟩
    | true =>
      cases h3 : lpB rD sD with
      | false =>
        have HC := Lib.hid (show smC rN rD sN sD = false by unfold smC; rw [h3]; simp)
        have x1 := X1.out
        rw [h1] at x1
        simp only [Bool.not_true] at x1
        have x2 := X2.out
        rw [h2] at x2
        simp only [Bool.not_true] at x2
        have x3 := X3.out
        rw [h3] at x3
        simp only [Bool.not_false] at x3
        clear HYY HPO h1 h2 h3
        have c0_0 := K0.cell0 (i := 0) (v := .int .i64 rN) rfl
        have c0_1 := K0.cell0 (i := 1) (v := .int .i64 rD) rfl
        have c1_0 := K1.cell0 (i := 0) (v := .int .i64 sN) rfl
        have c1_1 := K1.cell0 (i := 1) (v := .int .i64 sD) rfl
        go_enter Try.func78, Try.ntmps78
        go_wp2_with fail
        generalize (((w.alloc (.cells #[.int .i64 rN, .int .i64 rD] 43)).alloc (.cells #[.int .i64 sN, .int .i64 sD] 43)).alloc (.cells #[.int .i64 0, .int .i64 0] 43)) = V at *
        have g1 := K2.cell0 (i := 0) rfl
        have g2 := K2.cell0 (i := 1) rfl
        have f1 := K2.free 0
        have f2 := K2.free 1
        have hc5 := (blk_set2 K2 (.int .i64 0) (.int .i64 0)).cell0 (i := 0) rfl
        have hc6 := (blk_set2 K2 (.int .i64 0) (.int .i64 0)).cell0 (i := 1) rfl
        go_region
        all_goals
          have HNO0 := sm_no HC.out
          rw [HRN.out, HRD.out, HRB.out] at HNO0
          have HNO := Lib.hid HNO0
          clear HNO0
          go_wp2_with fail
          exact bodyPost_ret (v := .tuple #[.agg #[.int .i64 0, .int .i64 0], .bool false]) (by simp [results, Try.results78, go_sem, hc5, hc6]) rfl ⟨by rw [HNO.out.1, HNO.out.2.1, HNO.out.2.2], by first | with_reducible exact ((below_drw bV).setCell (p := ⟨w.heap.size + 1 + 1, 0, none⟩) (Nat.le_add_right _ 2) _).setCell (p := ⟨w.heap.size + 1 + 1, 1, none⟩) (Nat.le_add_right _ 2) _ | with_reducible exact below_drw ((bV.setCell (p := ⟨w.heap.size + 1 + 1, 0, none⟩) (Nat.le_add_right _ 2) _).setCell (p := ⟨w.heap.size + 1 + 1, 1, none⟩) (Nat.le_add_right _ 2) _)⟩
      | true =>
        have x1 := X1.out
        rw [h1] at x1
        simp only [Bool.not_true] at x1
        have x2 := X2.out
        rw [h2] at x2
        simp only [Bool.not_true] at x2
        have x3 := X3.out
        rw [h3] at x3
        simp only [Bool.not_true] at x3
        have HT := Lib.hid (show smC rN rD sN sD = lsB (rN * sD) (sN * rD) by unfold smC; rw [h1, h2, h3]; rfl)
        have HA1 := Lib.hid (lp_abs h1)
        have HA2 := Lib.hid (lp_abs h2)
        have HA3 := Lib.hid (lp_abs h3)
        clear h1 h2 h3
        have HNN := Lib.hid (fun h => sm_no (rN := rN) (rD := rD) (sN := sN) (sD := sD) h)
        rw [HRN.out, HRD.out, HRB.out] at HNN
        generalize eL : rN * sD = L at *
        generalize eM : sN * rD = M at *
        generalize eB : rD * sD = B at *
        obtain ⟨l1, l2⟩ := HA1.out
        obtain ⟨m1, m2⟩ := HA2.out
        obtain ⟨b1, b2⟩ := HA3.out
        have w1 : IntKind.i64.wrap L = L := IntWalk.i64_in _ (by omega)
        have w2 : IntKind.i64.wrap M = M := IntWalk.i64_in _ (by omega)
        have w3 : IntKind.i64.wrap B = B := IntWalk.i64_in _ (by omega)
        cases h4 : lsB L M with
        | false =>
          have HC := Lib.hid (HNN.out (HT.out.trans h4))
          unfold lsB at h4
          rw [Bool.and_eq_false_iff, decide_eq_false_iff_not, decide_eq_false_iff_not] at h4
          clear HYY HNN HT HPO
          by_cases p0 : 0 < L
          · have y1 : IntKind.i64.wrap (9000000000000000000 - L) = 9000000000000000000 - L := IntWalk.i64_in _ (by omega)
            have y2 : 9000000000000000000 - L < M := by omega
            clear h4 l1 l2 m1 m2 b1 b2 HA1 HA2 HA3
            have c0_0 := K0.cell0 (i := 0) (v := .int .i64 rN) rfl
            have c0_1 := K0.cell0 (i := 1) (v := .int .i64 rD) rfl
            have c1_0 := K1.cell0 (i := 0) (v := .int .i64 sN) rfl
            have c1_1 := K1.cell0 (i := 1) (v := .int .i64 sD) rfl
            go_enter Try.func78, Try.ntmps78
            go_wp2_with fail
            generalize (((w.alloc (.cells #[.int .i64 rN, .int .i64 rD] 43)).alloc (.cells #[.int .i64 sN, .int .i64 sD] 43)).alloc (.cells #[.int .i64 0, .int .i64 0] 43)) = V at *
            have g1 := K2.cell0 (i := 0) rfl
            have g2 := K2.cell0 (i := 1) rfl
            have f1 := K2.free 0
            have f2 := K2.free 1
            have hc5 := (blk_set2 K2 (.int .i64 0) (.int .i64 0)).cell0 (i := 0) rfl
            have hc6 := (blk_set2 K2 (.int .i64 0) (.int .i64 0)).cell0 (i := 1) rfl
            go_region
            all_goals
              go_wp2_with fail
              exact bodyPost_ret (v := .tuple #[.agg #[.int .i64 0, .int .i64 0], .bool false]) (by simp [results, Try.results78, go_sem, hc5, hc6]) rfl ⟨by rw [HC.out.1, HC.out.2.1, HC.out.2.2], by first | with_reducible exact ((below_drw bV).setCell (p := ⟨w.heap.size + 1 + 1, 0, none⟩) (Nat.le_add_right _ 2) _).setCell (p := ⟨w.heap.size + 1 + 1, 1, none⟩) (Nat.le_add_right _ 2) _ | with_reducible exact below_drw ((bV.setCell (p := ⟨w.heap.size + 1 + 1, 0, none⟩) (Nat.le_add_right _ 2) _).setCell (p := ⟨w.heap.size + 1 + 1, 1, none⟩) (Nat.le_add_right _ 2) _)⟩
          by_cases pL : L < 0
          · have y0 : ¬ 0 < L := by omega
            have y1 : IntKind.i64.wrap (-9000000000000000000 - L) = -9000000000000000000 - L := IntWalk.i64_in _ (by omega)
            have y2 : M < -9000000000000000000 - L := by omega
            clear h4 l1 l2 m1 m2 b1 b2 HA1 HA2 HA3
            have c0_0 := K0.cell0 (i := 0) (v := .int .i64 rN) rfl
            have c0_1 := K0.cell0 (i := 1) (v := .int .i64 rD) rfl
            have c1_0 := K1.cell0 (i := 0) (v := .int .i64 sN) rfl
            have c1_1 := K1.cell0 (i := 1) (v := .int .i64 sD) rfl
            go_enter Try.func78, Try.ntmps78
            go_wp2_with fail
            generalize (((w.alloc (.cells #[.int .i64 rN, .int .i64 rD] 43)).alloc (.cells #[.int .i64 sN, .int .i64 sD] 43)).alloc (.cells #[.int .i64 0, .int .i64 0] 43)) = V at *
            have g1 := K2.cell0 (i := 0) rfl
            have g2 := K2.cell0 (i := 1) rfl
            have f1 := K2.free 0
            have f2 := K2.free 1
            have hc5 := (blk_set2 K2 (.int .i64 0) (.int .i64 0)).cell0 (i := 0) rfl
            have hc6 := (blk_set2 K2 (.int .i64 0) (.int .i64 0)).cell0 (i := 1) rfl
            go_region
            all_goals
              go_wp2_with fail
              exact bodyPost_ret (v := .tuple #[.agg #[.int .i64 0, .int .i64 0], .bool false]) (by simp [results, Try.results78, go_sem, hc5, hc6]) rfl ⟨by rw [HC.out.1, HC.out.2.1, HC.out.2.2], by first | with_reducible exact ((below_drw bV).setCell (p := ⟨w.heap.size + 1 + 1, 0, none⟩) (Nat.le_add_right _ 2) _).setCell (p := ⟨w.heap.size + 1 + 1, 1, none⟩) (Nat.le_add_right _ 2) _ | with_reducible exact below_drw ((bV.setCell (p := ⟨w.heap.size + 1 + 1, 0, none⟩) (Nat.le_add_right _ 2) _).setCell (p := ⟨w.heap.size + 1 + 1, 1, none⟩) (Nat.le_add_right _ 2) _)⟩
          exfalso
          omega
        | true =>
          have HYS := Lib.hid (HYY.out (HT.out.trans h4))
          unfold lsB at h4
          rw [Bool.and_eq_true, decide_eq_true_eq, decide_eq_true_eq] at h4
          clear HYY HNN HT
          have w4 : IntKind.i64.wrap (L + M) = L + M := IntWalk.i64_in _ (by omega)
          have HO := Lib.hid (fun W => spec_ofA (L + M) B W (by omega) (by omega) HPO.out (by omega))
          have HK := Lib.hid (fun W => spec_ok (ofN (L + M) B) (ofD (L + M) B) W (by have := @of_rng (L + M) B; omega) (by have := @of_rng (L + M) B; omega) (by have := @of_rng (L + M) B; omega) (by have := @of_rng (L + M) B; omega))
          rw [of_ok] at HK
          by_cases p0 : 0 < L
          · have y1 : IntKind.i64.wrap (9000000000000000000 - L) = 9000000000000000000 - L := IntWalk.i64_in _ (by omega)
            have y2 : ¬ (9000000000000000000 - L < M) := by omega
            have y3 : ¬ L < 0 := by omega
            clear h4 l1 l2 m1 m2 b1 b2 HA1 HA2 HA3 HPO
            have c0_0 := K0.cell0 (i := 0) (v := .int .i64 rN) rfl
            have c0_1 := K0.cell0 (i := 1) (v := .int .i64 rD) rfl
            have c1_0 := K1.cell0 (i := 0) (v := .int .i64 sN) rfl
            have c1_1 := K1.cell0 (i := 1) (v := .int .i64 sD) rfl
            go_enter Try.func78, Try.ntmps78
            go_wp2_with fail
            generalize (((w.alloc (.cells #[.int .i64 rN, .int .i64 rD] 43)).alloc (.cells #[.int .i64 sN, .int .i64 sD] 43)).alloc (.cells #[.int .i64 0, .int .i64 0] 43)) = V at *
            have bW := below_drw bV
            have K2d := K2.to (below_drw (Below.refl _ _) : Below V.heap.size V V.drew)
            go_region
            all_goals go_wp2_with fail
            all_goals
              refine (HO.out _).mono ?_
              rintro e w4 ⟨rfl, bl4⟩
              have b4 := below_to bW bl4
              have Q2 := K2d.to bl4
              clear bW K2d bl4 HO
              generalize ofN (L + M) B = N at *
              generalize ofD (L + M) B = D at *
              generalize hasR (L + M) B = R at *
              go_wp2_with fail
              have hbx : w.heap.size + 1 + 1 ≠ w4.heap.size := by have := Q2.lt; omega
              obtain ⟨d1, d2, _, _⟩ := two_new w4 (.int .i64 N) (.int .i64 D) 43
              have bq := below_one w4 (.cells #[.int .i64 N, .int .i64 D] 43)
              have Q3 := Q2.to bq
              have b5 := below_to b4 bq
              clear bq b4 Q2
              generalize w4.alloc (.cells #[.int .i64 N, .int .i64 D] 43) = X at *
              generalize w4.heap.size = bxx at *
              have c1 := Q3.cell0 (i := 0) rfl
              have c2 := Q3.cell0 (i := 1) rfl
              go_region_held3 (fun w' => w'.cell? ⟨bxx, 0, none⟩ = some (.int .i64 N) ∧ w'.cell? ⟨bxx, 1, none⟩ = some (.int .i64 D))
                (first | (refine two_put hbx d1 d2 ?_; repeat (first | exact Below.refl _ _ | refine below_drw ?_ | refine below_to ?_ (by assumption))) | (refine twoc d1 d2 ?_; repeat (first | exact Below.refl _ _ | refine below_drw ?_ | refine below_to ?_ (by assumption))))
                ((go_at_call 117; (with_reducible refine (HK.out _).mono ?_); rintro e w6 ⟨rfl, bl6⟩; have E1 := Q3.to (below_to (below_drw (Below.refl _ _)) bl6); have e1 := E1.cell0 (i := 0) rfl; have e2 := E1.cell0 (i := 1) rfl; have f1 := E1.free 0; have f2 := E1.free 1))
              all_goals
                have hc5 := (blk_set2 E1 (.int .i64 N) (.int .i64 D)).cell0 (i := 0) rfl
                have hc6 := (blk_set2 E1 (.int .i64 N) (.int .i64 D)).cell0 (i := 1) rfl
                have b6 := below_to b5 (below_to (below_drw (Below.refl _ _)) bl6)
                go_wp2_with fail
                exact bodyPost_ret (v := .tuple #[.agg #[.int .i64 N, .int .i64 D], .bool R]) (by simp [results, Try.results78, go_sem, hc5, hc6]) rfl ⟨by rw [HYS.out.1, HYS.out.2.1, HYS.out.2.2], (b6.setCell (p := ⟨w.heap.size + 1 + 1, 0, none⟩) (Nat.le_add_right _ 2) _).setCell (p := ⟨w.heap.size + 1 + 1, 1, none⟩) (Nat.le_add_right _ 2) _⟩
          by_cases pL : L < 0
          · have y0 : ¬ 0 < L := by omega
            have y1 : IntKind.i64.wrap (-9000000000000000000 - L) = -9000000000000000000 - L := IntWalk.i64_in _ (by omega)
            have y2 : ¬ (M < -9000000000000000000 - L) := by omega
            clear h4 l1 l2 m1 m2 b1 b2 HA1 HA2 HA3 HPO
            have c0_0 := K0.cell0 (i := 0) (v := .int .i64 rN) rfl
            have c0_1 := K0.cell0 (i := 1) (v := .int .i64 rD) rfl
            have c1_0 := K1.cell0 (i := 0) (v := .int .i64 sN) rfl
            have c1_1 := K1.cell0 (i := 1) (v := .int .i64 sD) rfl
            go_enter Try.func78, Try.ntmps78
            go_wp2_with fail
            generalize (((w.alloc (.cells #[.int .i64 rN, .int .i64 rD] 43)).alloc (.cells #[.int .i64 sN, .int .i64 sD] 43)).alloc (.cells #[.int .i64 0, .int .i64 0] 43)) = V at *
            have bW := below_drw bV
            have K2d := K2.to (below_drw (Below.refl _ _) : Below V.heap.size V V.drew)
            go_region
            all_goals go_wp2_with fail
            all_goals
              refine (HO.out _).mono ?_
              rintro e w4 ⟨rfl, bl4⟩
              have b4 := below_to bW bl4
              have Q2 := K2d.to bl4
              clear bW K2d bl4 HO
              generalize ofN (L + M) B = N at *
              generalize ofD (L + M) B = D at *
              generalize hasR (L + M) B = R at *
              go_wp2_with fail
              have hbx : w.heap.size + 1 + 1 ≠ w4.heap.size := by have := Q2.lt; omega
              obtain ⟨d1, d2, _, _⟩ := two_new w4 (.int .i64 N) (.int .i64 D) 43
              have bq := below_one w4 (.cells #[.int .i64 N, .int .i64 D] 43)
              have Q3 := Q2.to bq
              have b5 := below_to b4 bq
              clear bq b4 Q2
              generalize w4.alloc (.cells #[.int .i64 N, .int .i64 D] 43) = X at *
              generalize w4.heap.size = bxx at *
              have c1 := Q3.cell0 (i := 0) rfl
              have c2 := Q3.cell0 (i := 1) rfl
              go_region_held3 (fun w' => w'.cell? ⟨bxx, 0, none⟩ = some (.int .i64 N) ∧ w'.cell? ⟨bxx, 1, none⟩ = some (.int .i64 D))
                (first | (refine two_put hbx d1 d2 ?_; repeat (first | exact Below.refl _ _ | refine below_drw ?_ | refine below_to ?_ (by assumption))) | (refine twoc d1 d2 ?_; repeat (first | exact Below.refl _ _ | refine below_drw ?_ | refine below_to ?_ (by assumption))))
                ((go_at_call 117; (with_reducible refine (HK.out _).mono ?_); rintro e w6 ⟨rfl, bl6⟩; have E1 := Q3.to (below_to (below_drw (Below.refl _ _)) bl6); have e1 := E1.cell0 (i := 0) rfl; have e2 := E1.cell0 (i := 1) rfl; have f1 := E1.free 0; have f2 := E1.free 1))
              all_goals
                have hc5 := (blk_set2 E1 (.int .i64 N) (.int .i64 D)).cell0 (i := 0) rfl
                have hc6 := (blk_set2 E1 (.int .i64 N) (.int .i64 D)).cell0 (i := 1) rfl
                have b6 := below_to b5 (below_to (below_drw (Below.refl _ _)) bl6)
                go_wp2_with fail
                exact bodyPost_ret (v := .tuple #[.agg #[.int .i64 N, .int .i64 D], .bool R]) (by simp [results, Try.results78, go_sem, hc5, hc6]) rfl ⟨by rw [HYS.out.1, HYS.out.2.1, HYS.out.2.2], (b6.setCell (p := ⟨w.heap.size + 1 + 1, 0, none⟩) (Nat.le_add_right _ 2) _).setCell (p := ⟨w.heap.size + 1 + 1, 1, none⟩) (Nat.le_add_right _ 2) _⟩
          · skip
            clear h4 l1 l2 m1 m2 b1 b2 HA1 HA2 HA3 HPO
            have c0_0 := K0.cell0 (i := 0) (v := .int .i64 rN) rfl
            have c0_1 := K0.cell0 (i := 1) (v := .int .i64 rD) rfl
            have c1_0 := K1.cell0 (i := 0) (v := .int .i64 sN) rfl
            have c1_1 := K1.cell0 (i := 1) (v := .int .i64 sD) rfl
            go_enter Try.func78, Try.ntmps78
            go_wp2_with fail
            generalize (((w.alloc (.cells #[.int .i64 rN, .int .i64 rD] 43)).alloc (.cells #[.int .i64 sN, .int .i64 sD] 43)).alloc (.cells #[.int .i64 0, .int .i64 0] 43)) = V at *
            have bW := below_drw bV
            have K2d := K2.to (below_drw (Below.refl _ _) : Below V.heap.size V V.drew)
            go_region
            all_goals go_wp2_with fail
            all_goals
              refine (HO.out _).mono ?_
              rintro e w4 ⟨rfl, bl4⟩
              have b4 := below_to bW bl4
              have Q2 := K2d.to bl4
              clear bW K2d bl4 HO
              generalize ofN (L + M) B = N at *
              generalize ofD (L + M) B = D at *
              generalize hasR (L + M) B = R at *
              go_wp2_with fail
              have hbx : w.heap.size + 1 + 1 ≠ w4.heap.size := by have := Q2.lt; omega
              obtain ⟨d1, d2, _, _⟩ := two_new w4 (.int .i64 N) (.int .i64 D) 43
              have bq := below_one w4 (.cells #[.int .i64 N, .int .i64 D] 43)
              have Q3 := Q2.to bq
              have b5 := below_to b4 bq
              clear bq b4 Q2
              generalize w4.alloc (.cells #[.int .i64 N, .int .i64 D] 43) = X at *
              generalize w4.heap.size = bxx at *
              have c1 := Q3.cell0 (i := 0) rfl
              have c2 := Q3.cell0 (i := 1) rfl
              go_region_held3 (fun w' => w'.cell? ⟨bxx, 0, none⟩ = some (.int .i64 N) ∧ w'.cell? ⟨bxx, 1, none⟩ = some (.int .i64 D))
                (first | (refine two_put hbx d1 d2 ?_; repeat (first | exact Below.refl _ _ | refine below_drw ?_ | refine below_to ?_ (by assumption))) | (refine twoc d1 d2 ?_; repeat (first | exact Below.refl _ _ | refine below_drw ?_ | refine below_to ?_ (by assumption))))
                ((go_at_call 117; (with_reducible refine (HK.out _).mono ?_); rintro e w6 ⟨rfl, bl6⟩; have E1 := Q3.to (below_to (below_drw (Below.refl _ _)) bl6); have e1 := E1.cell0 (i := 0) rfl; have e2 := E1.cell0 (i := 1) rfl; have f1 := E1.free 0; have f2 := E1.free 1))
              all_goals
                have hc5 := (blk_set2 E1 (.int .i64 N) (.int .i64 D)).cell0 (i := 0) rfl
                have hc6 := (blk_set2 E1 (.int .i64 N) (.int .i64 D)).cell0 (i := 1) rfl
                have b6 := below_to b5 (below_to (below_drw (Below.refl _ _)) bl6)
                go_wp2_with fail
                exact bodyPost_ret (v := .tuple #[.agg #[.int .i64 N, .int .i64 D], .bool R]) (by simp [results, Try.results78, go_sem, hc5, hc6]) rfl ⟨by rw [HYS.out.1, HYS.out.2.1, HYS.out.2.2], (b6.setCell (p := ⟨w.heap.size + 1 + 1, 0, none⟩) (Nat.le_add_right _ 2) _).setCell (p := ⟨w.heap.size + 1 + 1, 1, none⟩) (Nat.le_add_right _ 2) _⟩
end Go.Proofs.Ytceeninhjlonbaa
