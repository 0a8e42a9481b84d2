/- The sum of two fractions of the program and of the model, over the translation. -/
import Derived.Test.YtfndkapjclhflaaYb
import Derived.Test.YtfndkapjclhflaaEz
namespace Go.Proofs.Ytfndkapjclhflaa
open Go.RowKit Go.Shelf

/-- whether the sum stays within the limit -/
def smC (rN rD sN sD : Int) : Bool := lpB rN sD && lpB sN rD && lpB rD sD && lsB (rN * sD) (sN * rD)
def smN (rN rD sN sD : Int) : Int := if smC rN rD sN sD = true then ofN (rN * sD + sN * rD) (rD * sD) else 0
def smD (rN rD sN sD : Int) : Int := if smC rN rD sN sD = true then ofD (rN * sD + sN * rD) (rD * sD) else 0
def smB (rN rD sN sD : Int) : Bool := smC rN rD sN sD && hasR (rN * sD + sN * rD) (rD * sD)
theorem sm_no {rN rD sN sD : Int} (h : smC rN rD sN sD = false) : smN rN rD sN sD = 0 ∧ smD rN rD sN sD = 0 ∧ smB rN rD sN sD = false := by
  unfold smN smD smB; rw [h]; simp
theorem sm_yes {rN rD sN sD : Int} (h : smC rN rD sN sD = true) : smN rN rD sN sD = ofN (rN * sD + sN * rD) (rD * sD) ∧ smD rN rD sN sD = ofD (rN * sD + sN * rD) (rD * sD) ∧ smB rN rD sN sD = hasR (rN * sD + sN * rD) (rD * sD) := by
  unfold smN smD smB; rw [h]; simp
theorem of_ok {n d : Int} : okR (ofN n d) (ofD n d) = hasR n d := by
  unfold ofN ofD
  cases h : hasR n d with
  | true => rw [if_pos rfl, if_pos rfl]; exact okR_of n d h
  | false => simp [okR]
theorem of_rng {n d : Int} : (-1000000000000000000 ≤ ofN n d ∧ ofN n d ≤ 1000000000000000000) ∧ 0 ≤ ofD n d ∧ ofD n d ≤ 1000000000000000 := by
  unfold ofN ofD
  cases h : hasR n d with
  | true =>
    have k := okR_of n d h
    rw [okR_iff] at k
    rw [if_pos rfl, if_pos rfl]
    omega
  | false => simp
theorem lp_pos {a b : Int} (ha : 1 ≤ a) (hb : 1 ≤ b) : 1 ≤ a * b := by
  have : 0 < a * b := Int.mul_pos (by omega) (by omega)
  omega
set_option maxRecDepth 100000 in
set_option maxHeartbeats 3200000 in
theorem impl_sum (rN rD sN sD : Int) (w : World) (hr : okR rN rD = true) (hs : okR sN sD = true) :
    Calls Try.prog 63 #[.agg #[.int .i64 rN, .int .i64 rD], .agg #[.int .i64 sN, .int .i64 sD]] w fun e w' => e = .returned (.tuple #[.agg #[.int .i64 (smN rN rD sN sD), .int .i64 (smD rN rD sN sD)], .bool (smB rN rD sN sD)]) ∧ Below w.heap.size w w' := by
  have kr := (okR_iff _ _).1 hr
  have ks := (okR_iff _ _).1 hs
  clear hr hs
  have bV := below_bx2 (below_bx2 (below_one w (.cells #[.int .i64 rN, .int .i64 rD] 49)) (.cells #[.int .i64 sN, .int .i64 sD] 49)) (.cells #[.int .i64 0, .int .i64 0] 49)
  have K0 := ((blk_new w #[.int .i64 rN, .int .i64 rD] 49 (b := w.heap.size) (by simp)).to (below_one _ (.cells #[.int .i64 sN, .int .i64 sD] 49))).to (below_one _ (.cells #[.int .i64 0, .int .i64 0] 49))
  have K1 := (blk_new (w.alloc (.cells #[.int .i64 rN, .int .i64 rD] 49)) #[.int .i64 sN, .int .i64 sD] 49 (b := w.heap.size + 1) (by simp)).to (below_one _ (.cells #[.int .i64 0, .int .i64 0] 49))
  have K2 := blk_new ((w.alloc (.cells #[.int .i64 rN, .int .i64 rD] 49)).alloc (.cells #[.int .i64 sN, .int .i64 sD] 49)) #[.int .i64 0, .int .i64 0] 49 (b := w.heap.size + 1 + 1) (by simp)
  have H1 := Lib.hid (fun W => impl_lp rN sD W (by omega) (by omega) (by omega) (by omega))
  have H2 := Lib.hid (fun W => impl_lp sN rD W (by omega) (by omega) (by omega) (by omega))
  have H3 := Lib.hid (fun W => impl_lp rD sD W (by omega) (by omega) (by omega) (by omega))
  have HPO := Lib.hid (lp_pos kr.1 ks.1)
  clear kr ks
  have c0_0 := K0.cell0 (i := 0) (v := .int .i64 rN) rfl
  have c0_1 := K0.cell0 (i := 1) (v := .int .i64 rD) rfl
  have c1_0 := K1.cell0 (i := 0) (v := .int .i64 sN) rfl
  have c1_1 := K1.cell0 (i := 1) (v := .int .i64 sD) rfl
  go_enter Try.func63, Try.ntmps63
  go_wp2_with fail
  generalize (((w.alloc (.cells #[.int .i64 rN, .int .i64 rD] 49)).alloc (.cells #[.int .i64 sN, .int .i64 sD] 49)).alloc (.cells #[.int .i64 0, .int .i64 0] 49)) = V at *
  refine (H1.out _).mono ?_
  rintro e w1 ⟨rfl, rfl⟩
  go_wp2_with fail
  refine (H2.out _).mono ?_
  rintro e w2 ⟨rfl, rfl⟩
  go_wp2_with fail
  refine (H3.out _).mono ?_
  rintro e w3 ⟨rfl, rfl⟩
  clear c0_0 c0_1 c1_0 c1_1 H1 H2 H3 K0 K1
  cases h1 : lpB rN sD with
  | false =>
    have HC := Lib.hid (show smC rN rD sN sD = false by unfold smC; rw [h1]; simp)
    clear h1
    have g1 := K2.cell0 (i := 0) rfl
    have g2 := K2.cell0 (i := 1) rfl
    have f1 := K2.free 0
    have f2 := K2.free 1
    have hc5 := (blk_set2 K2 (.int .i64 0) (.int .i64 0)).cell0 (i := 0) rfl
    have hc6 := (blk_set2 K2 (.int .i64 0) (.int .i64 0)).cell0 (i := 1) rfl
    have HNO := Lib.hid (sm_no HC.out)
    go_wp2_with fail
    exact bodyPost_ret (v := .tuple #[.agg #[.int .i64 0, .int .i64 0], .bool false]) (by simp [results, Try.results63, go_sem, hc5, hc6]) rfl ⟨by rw [HNO.out.1, HNO.out.2.1, HNO.out.2.2], (bV.setCell (p := ⟨w.heap.size + 1 + 1, 0, none⟩) (Nat.le_add_right _ 2) _).setCell (p := ⟨w.heap.size + 1 + 1, 1, none⟩) (Nat.le_add_right _ 2) _⟩
  | true =>
    cases h2 : lpB sN rD with
    | false =>
      have HC := Lib.hid (show smC rN rD sN sD = false by unfold smC; rw [h2]; simp)
      clear h2
      have g1 := K2.cell0 (i := 0) rfl
      have g2 := K2.cell0 (i := 1) rfl
      have f1 := K2.free 0
      have f2 := K2.free 1
      have hc5 := (blk_set2 K2 (.int .i64 0) (.int .i64 0)).cell0 (i := 0) rfl
      have hc6 := (blk_set2 K2 (.int .i64 0) (.int .i64 0)).cell0 (i := 1) rfl
      have HNO := Lib.hid (sm_no HC.out)
      go_wp2_with fail
      exact bodyPost_ret (v := .tuple #[.agg #[.int .i64 0, .int .i64 0], .bool false]) (by simp [results, Try.results63, go_sem, hc5, hc6]) rfl ⟨by rw [HNO.out.1, HNO.out.2.1, HNO.out.2.2], (bV.setCell (p := ⟨w.heap.size + 1 + 1, 0, none⟩) (Nat.le_add_right _ 2) _).setCell (p := ⟨w.heap.size + 1 + 1, 1, none⟩) (Nat.le_add_right _ 2) _⟩
    | true =>
      cases h3 : lpB rD sD with
      | false =>
        have HC := Lib.hid (show smC rN rD sN sD = false by unfold smC; rw [h3]; simp)
        clear h3
        have g1 := K2.cell0 (i := 0) rfl
        have g2 := K2.cell0 (i := 1) rfl
        have f1 := K2.free 0
        have f2 := K2.free 1
        have hc5 := (blk_set2 K2 (.int .i64 0) (.int .i64 0)).cell0 (i := 0) rfl
        have hc6 := (blk_set2 K2 (.int .i64 0) (.int .i64 0)).cell0 (i := 1) rfl
        have HNO := Lib.hid (sm_no HC.out)
        go_wp2_with fail
        exact bodyPost_ret (v := .tuple #[.agg #[.int .i64 0, .int .i64 0], .bool false]) (by simp [results, Try.results63, go_sem, hc5, hc6]) rfl ⟨by rw [HNO.out.1, HNO.out.2.1, HNO.out.2.2], (bV.setCell (p := ⟨w.heap.size + 1 + 1, 0, none⟩) (Nat.le_add_right _ 2) _).setCell (p := ⟨w.heap.size + 1 + 1, 1, none⟩) (Nat.le_add_right _ 2) _⟩
      | true =>
        have HT := Lib.hid (show smC rN rD sN sD = lsB (rN * sD) (sN * rD) by unfold smC; rw [h1, h2, h3]; rfl)
        have HA1 := Lib.hid (lp_abs h1)
        have HA2 := Lib.hid (lp_abs h2)
        have HA3 := Lib.hid (lp_abs h3)
        have e1 : lpN rN sD = rN * sD := by unfold lpN; rw [if_pos h1]
        have e2 : lpN sN rD = sN * rD := by unfold lpN; rw [if_pos h2]
        have e3 : lpN rD sD = rD * sD := by unfold lpN; rw [if_pos h3]
        rw [e1, e2, e3]
        clear h1 h2 h3 e1 e2 e3
        have HYY := Lib.hid (fun h => sm_yes (rN := rN) (rD := rD) (sN := sN) (sD := sD) h)
        have HNN := Lib.hid (fun h => sm_no (rN := rN) (rD := rD) (sN := sN) (sD := sD) h)
        obtain ⟨RN, hRN⟩ : ∃ x, smN rN rD sN sD = x := ⟨_, rfl⟩
        obtain ⟨RD, hRD⟩ : ∃ x, smD rN rD sN sD = x := ⟨_, rfl⟩
        obtain ⟨RB, hRB⟩ : ∃ x, smB rN rD sN sD = x := ⟨_, rfl⟩
        generalize rN * sD = L at *
        generalize sN * rD = M at *
        generalize rD * sD = B at *
        have HLS := Lib.hid (fun W => impl_ls L M W HA1.out.1 HA1.out.2 HA2.out.1 HA2.out.2)
        go_wp2_with fail
        refine (HLS.out _).mono ?_
        rintro e w4 ⟨rfl, rfl⟩
        cases h4 : lsB L M with
        | false =>
          have HC := Lib.hid (HT.out.trans h4)
          clear h4 hRN hRD hRB HLS HYY
          have g1 := K2.cell0 (i := 0) rfl
          have g2 := K2.cell0 (i := 1) rfl
          have f1 := K2.free 0
          have f2 := K2.free 1
          have hc5 := (blk_set2 K2 (.int .i64 0) (.int .i64 0)).cell0 (i := 0) rfl
          have hc6 := (blk_set2 K2 (.int .i64 0) (.int .i64 0)).cell0 (i := 1) rfl
          have HNO := Lib.hid (sm_no HC.out)
          go_wp2_with fail
          exact bodyPost_ret (v := .tuple #[.agg #[.int .i64 0, .int .i64 0], .bool false]) (by simp [results, Try.results63, go_sem, hc5, hc6]) rfl ⟨by rw [HNO.out.1, HNO.out.2.1, HNO.out.2.2], (bV.setCell (p := ⟨w.heap.size + 1 + 1, 0, none⟩) (Nat.le_add_right _ 2) _).setCell (p := ⟨w.heap.size + 1 + 1, 1, none⟩) (Nat.le_add_right _ 2) _⟩
        | true =>
          have HYS := Lib.hid (HYY.out (HT.out.trans h4))
          have e4 : lsN L M = L + M := by unfold lsN; rw [if_pos h4]
          rw [e4]
          have k4 := h4
          unfold lsB at k4
          rw [Bool.and_eq_true, decide_eq_true_eq, decide_eq_true_eq] at k4
          clear h4 e4 hRN hRD hRB HLS HYY HNN HT
          generalize L + M = T at *
          have HO := Lib.hid (fun W => impl_ofA T B W (by omega) (by omega) HPO.out (by have := HA3.out; omega))
          have HK := Lib.hid (fun W => impl_ok (ofN T B) (ofD T B) W (by have := @of_rng T B; omega) (by have := @of_rng T B; omega) (by have := @of_rng T B; omega) (by have := @of_rng T B; omega))
          rw [of_ok] at HK
          clear k4 HA1 HA2 HA3 HPO
          go_wp2_with fail
          refine (HO.out _).mono ?_
          rintro e w4 ⟨rfl, bl4⟩
          have b4 := below_to bV bl4
          have Q2 := K2.to bl4
          clear bV K2 bl4 HO
          generalize ofN T B = N at *
          generalize ofD T B = D at *
          generalize hasR T B = R at *
          go_wp2_with fail
          have hbx : w.heap.size + 1 + 1 ≠ w4.heap.size := by have := Q2.lt; omega
          obtain ⟨d1, d2, _, _⟩ := two_new w4 (.int .i64 N) (.int .i64 D) 49
          have bq := below_one w4 (.cells #[.int .i64 N, .int .i64 D] 49)
          have Q3 := Q2.to bq
          have b5 := below_to b4 bq
          clear bq b4 Q2
          generalize w4.alloc (.cells #[.int .i64 N, .int .i64 D] 49) = X at *
          generalize w4.heap.size = bxx at *
          have c1 := Q3.cell0 (i := 0) rfl
          have c2 := Q3.cell0 (i := 1) rfl
          go_region_held3 (fun w' => w'.cell? ⟨bxx, 0, none⟩ = some (.int .i64 N) ∧ w'.cell? ⟨bxx, 1, none⟩ = some (.int .i64 D))
            (first | (refine two_put hbx d1 d2 ?_; repeat (first | exact Below.refl _ _ | refine below_drw ?_ | refine below_to ?_ (by assumption))) | (refine twoc d1 d2 ?_; repeat (first | exact Below.refl _ _ | refine below_drw ?_ | refine below_to ?_ (by assumption))))
            ((go_at_call 66; (with_reducible refine (HK.out _).mono ?_); rintro e w6 ⟨rfl, bl6⟩; have E1 := Q3.to (below_to (below_drw (Below.refl _ _)) bl6); have e1 := E1.cell0 (i := 0) rfl; have e2 := E1.cell0 (i := 1) rfl; have f1 := E1.free 0; have f2 := E1.free 1))
          all_goals
            have hc5 := (blk_set2 E1 (.int .i64 N) (.int .i64 D)).cell0 (i := 0) rfl
            have hc6 := (blk_set2 E1 (.int .i64 N) (.int .i64 D)).cell0 (i := 1) rfl
            have b6 := below_to b5 (below_to (below_drw (Below.refl _ _)) bl6)
            go_wp2_with fail
            exact bodyPost_ret (v := .tuple #[.agg #[.int .i64 N, .int .i64 D], .bool R]) (by simp [results, Try.results63, go_sem, hc5, hc6]) rfl ⟨by rw [HYS.out.1, HYS.out.2.1, HYS.out.2.2], (b6.setCell (p := ⟨w.heap.size + 1 + 1, 0, none⟩) (Nat.le_add_right _ 2) _).setCell (p := ⟨w.heap.size + 1 + 1, 1, none⟩) (Nat.le_add_right _ 2) _⟩
end Go.Proofs.Ytfndkapjclhflaa
