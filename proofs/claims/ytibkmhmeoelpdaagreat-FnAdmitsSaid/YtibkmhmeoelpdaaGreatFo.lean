/- narrowed of the program: one half plane's bound on the input, over the translation. folded of the program (over spans and half planes), for any closure; over the translation. -/
import Derived.Test.YtibkmhmeoelpdaaGreatIm
import Derived.Test.YtibkmhmeoelpdaaGreatFm
import Derived.Test.YtibkmhmeoelpdaaGreatFy
import Derived.Test.YtibkmhmeoelpdaaGreatMz
namespace Go.Proofs.YtibkmhmeoelpdaaGreat
open Go.RowKit
open Geo (H3)

/-- two ways to write one fraction -/
theorem of_same {x y u v : Int} (hx : -1000000000000000000 ≤ x ∧ x ≤ 1000000000000000000) (hy : 1 ≤ y ∧ y ≤ 1000000000000000) (hu : -1000000000000000000 ≤ u ∧ u ≤ 1000000000000000000) (hv : 1 ≤ v ∧ v ≤ 1000000000000000) (e : x * v = u * y) : ofN x y = ofN u v ∧ ofD x y = ofD u v := by
  obtain ⟨_, o1, e1⟩ := lxo_ok hx hy
  obtain ⟨_, o2, e2⟩ := lxo_ok hu hv
  have p1 := okR_pos o1
  have p2 := okR_pos o2
  refine fr_eq o1 o2 ?_
  generalize ofN x y = A at *
  generalize ofD x y = B at *
  generalize ofN u v = C at *
  generalize ofD u v = D at *
  have m : 0 < y * v := Int.mul_pos (by omega) (by omega)
  refine Int.eq_of_mul_eq_mul_right (a := y * v) (by omega) ?_
  have a1 : A * D * (y * v) = (A * y) * (D * v) := by grind
  have a2 : C * B * (y * v) = (C * v) * (B * y) := by grind
  rw [a1, a2, e1, e2]
  have a3 : x * B * (D * v) = (x * v) * (B * D) := by grind
  have a4 : u * D * (B * y) = (u * y) * (B * D) := by grind
  rw [a3, a4, e]
theorem has_neg (a e : Int) : hasR (-a) (-e) = hasR a e ∧ (topR (-a) (-e) = topR a e) ∧ (botR (-a) (-e) = botR a e) := by
  have h1 : topR (-a) (-e) = topR a e := by unfold topR; rw [Int.natAbs_neg, Int.gcd_neg, Int.neg_gcd]
  have h2 : botR (-a) (-e) = botR a e := by unfold botR; rw [Int.natAbs_neg, Int.gcd_neg, Int.neg_gcd]
  refine ⟨?_, h1, h2⟩
  unfold hasR
  rw [h1, h2]
  congr 2
  by_cases h : e = 0
  · simp [h]
  · simp [h]
theorem sgn_neg (a e : Int) (he : e < 0) : sgnR (-a) (-e) = sgnR a e := by
  unfold sgnR
  rw [(has_neg a e).2.1]
  have z : a = 0 → topR a e = 0 := by intro h; subst h; unfold topR; simp
  have d1 : decide (e < 0) = true := decide_eq_true he
  have d2 : decide (-e < 0) = false := decide_eq_false (by omega)
  rw [d1, d2]
  rcases Int.lt_trichotomy a 0 with h | h | h
  · rw [decide_eq_true h, decide_eq_false (show ¬ (-a < 0) by omega)]
    simp
  · rw [z h]
    simp
  · rw [decide_eq_false (show ¬ (a < 0) by omega), decide_eq_true (show -a < 0 by omega)]
    simp
/-- RatioOf with a negative denominator -/
theorem impl_ofneg (n d : Int) (w : World) (hn : -1000000000000000000 ≤ n ∧ n ≤ 1000000000000000000) (hd : -1000000000000000 ≤ d ∧ d ≤ -1) :
    Calls Tryz.prog 30 #[.int .i64 n, .int .i64 d] w fun e w' => e = .returned (.agg #[.int .i64 (ofN (-n) (-d)), .int .i64 (ofD (-n) (-d))]) ∧ Below w.heap.size w w' := by
  obtain ⟨h, _, _⟩ := lxo_ok (n := -n) (d := -d) (by omega) (by omega)
  obtain ⟨e1, e2, e3⟩ := has_neg n d
  have hh : hasR n d = true := by rw [← e1]; exact h
  have k1 : ofN (-n) (-d) = sgnR n d := by unfold ofN; rw [if_pos h, sgn_neg n d (by omega)]
  have k2 : ofD (-n) (-d) = (botR n d : Int) := by unfold ofD; rw [if_pos h, e3]
  rw [k1, k2]
  exact impl_of n d _ _ _ w (by omega) (by omega) (by omega) (by omega) hh rfl rfl rfl
/-- one bound more -/
def nrwP (n tN tD l1 l2 h1 h2 : Int) : (Int × Int) × (Int × Int) := if 0 < n then ((l1, l2), minP h1 h2 (ofN tN (tD * n)) (ofD tN (tD * n))) else if n < 0 then (maxP l1 l2 (ofN (-tN) (-(tD * n))) (ofD (-tN) (-(tD * n))), (h1, h2)) else if tN < 0 then ((0, 0), (0, 0)) else ((l1, l2), (h1, h2))
theorem nrw_set2 {W : World} {B : Nat} {t : TypeId} {a0 a1 a2 a3 : Value} (h : Blk W B #[a0, a1, a2, a3] t) (u v : Value) : Blk ((W.setCell ⟨B, 2, none⟩ u).setCell ⟨B, 3, none⟩ v) B #[a0, a1, u, v] t := heap_setCell_same _ B 3 _ t v (heap_setCell_same W B 2 _ t u h)
theorem nrw_set0 {W : World} {B : Nat} {t : TypeId} {a0 a1 a2 a3 : Value} (h : Blk W B #[a0, a1, a2, a3] t) (u v : Value) : Blk ((W.setCell ⟨B, 0, none⟩ u).setCell ⟨B, 1, none⟩ v) B #[u, v, a2, a3] t := heap_setCell_same _ B 1 _ t v (heap_setCell_same W B 0 _ t u h)
set_option maxHeartbeats 3200000 in
theorem impl_nar (n tN tD l1 l2 h1 h2 : Int) (w : World) (hl1 : I64 l1) (hl2 : I64 l2) (hh1 : I64 h1) (hh2 : I64 h2) (hn : -10000000 ≤ n ∧ n ≤ 10000000) (hT : -1000000000000000000 ≤ tN ∧ tN ≤ 1000000000000000000) (hD : 1 ≤ tD ∧ tD ≤ 2000000) :
    Calls Tryz.prog 102 #[.agg #[.int .i64 l1, .int .i64 l2, .int .i64 h1, .int .i64 h2], .int .i64 n, .agg #[.int .i64 tN, .int .i64 tD]] w fun e w' => e = .returned (.agg #[.int .i64 (nrwP n tN tD l1 l2 h1 h2).1.1, .int .i64 (nrwP n tN tD l1 l2 h1 h2).1.2, .int .i64 (nrwP n tN tD l1 l2 h1 h2).2.1, .int .i64 (nrwP n tN tD l1 l2 h1 h2).2.2]) ∧ Below w.heap.size w w' := by
  have bV := below_bx2 (below_bx2 (below_one w (.cells #[.int .i64 l1, .int .i64 l2, .int .i64 h1, .int .i64 h2] 35)) (.cells #[.int .i64 tN, .int .i64 tD] 33)) (.cells #[.int .i64 0, .int .i64 0, .int .i64 0, .int .i64 0] 35)
  have K0 := ((blk_new w #[.int .i64 l1, .int .i64 l2, .int .i64 h1, .int .i64 h2] 35 (b := w.heap.size) (by simp)).to (below_one _ (.cells #[.int .i64 tN, .int .i64 tD] 33))).to (below_one _ (.cells #[.int .i64 0, .int .i64 0, .int .i64 0, .int .i64 0] 35))
  have K1 := (blk_new (w.alloc (.cells #[.int .i64 l1, .int .i64 l2, .int .i64 h1, .int .i64 h2] 35)) #[.int .i64 tN, .int .i64 tD] 33 (b := w.heap.size + 1) (by simp)).to (below_one _ (.cells #[.int .i64 0, .int .i64 0, .int .i64 0, .int .i64 0] 35))
  have K2 := blk_new ((w.alloc (.cells #[.int .i64 l1, .int .i64 l2, .int .i64 h1, .int .i64 h2] 35)).alloc (.cells #[.int .i64 tN, .int .i64 tD] 33)) #[.int .i64 0, .int .i64 0, .int .i64 0, .int .i64 0] 35 (b := w.heap.size + 1 + 1) (by simp)
  have m1 := mul_in tD n 2000000 10000000 (by omega) hD.2 hn.1 hn.2
  go_enter Tryz.func102, Tryz.ntmps102
  go_upto_region 1 with fail
  generalize (((w.alloc (.cells #[.int .i64 l1, .int .i64 l2, .int .i64 h1, .int .i64 h2] 35)).alloc (.cells #[.int .i64 tN, .int .i64 tD] 33)).alloc (.cells #[.int .i64 0, .int .i64 0, .int .i64 0, .int .i64 0] 35)) = V at *
  by_cases p1 : 0 < n
  · have HN := Lib.hid (show nrwP n tN tD l1 l2 h1 h2 = ((l1, l2), minP h1 h2 (ofN tN (tD * n)) (ofD tN (tD * n))) by unfold nrwP; rw [if_pos p1])
    have m2 : 1 * 1 ≤ tD * n := Int.mul_le_mul hD.1 (by omega) (by omega) (by omega)
    have HO := Lib.hid (fun V => impl_ofA tN (tD * n) V (by omega) (by omega) (by omega) (by omega))
    obtain ⟨_, ok, _⟩ := lxo_ok (n := tN) (d := tD * n) hT (by omega)
    obtain ⟨k1, _, k3, k4, _⟩ := (okR_iff _ _).1 ok
    have HM := Lib.hid (fun V => impl_min h1 h2 (ofN tN (tD * n)) (ofD tN (tD * n)) V hh1.1 hh1.2 hh2.1 hh2.2 (by omega) (by omega) (by omega) (by omega))
    clear ok k1 k3 k4 hl1 hl2 hh1 hh2
    generalize ofN tN (tD * n) = o1 at *
    generalize ofD tN (tD * n) = o2 at *
    generalize minP h1 h2 o1 o2 = y at *
    obtain ⟨y1, y2⟩ := y
    simp only at HM HN
    have q0 := K0.cell0 (i := 2) rfl
    have q1 := K0.cell0 (i := 3) rfl
    have t0' := K1.cell0 (i := 0) rfl
    have t1' := K1.cell0 (i := 1) rfl
    have e1 : IntKind.i64.wrap (tD * n) = tD * n := IntWalk.i64_in _ (by omega)
    go_wp2_with fail
    go_region_with (first | (go_at_call 30; (with_reducible refine (HO.out _).mono ?_); rintro e wA ⟨rfl, blA⟩; have EA0 : Blk wA _ _ _ := K0.to (by repeat (first | (with_reducible exact Below.refl _ _) | refine below_drw ?_ | refine below_bx2 ?_ _ | refine below_to ?_ (by assumption))); have EA1 : Blk wA _ _ _ := K1.to (by repeat (first | (with_reducible exact Below.refl _ _) | refine below_drw ?_ | refine below_bx2 ?_ _ | refine below_to ?_ (by assumption))); have r2 := EA0.cell0 (i := 2) rfl; have r3 := EA0.cell0 (i := 3) rfl) | (go_at_call 77; (with_reducible refine (HM.out _).mono ?_); rintro e wB ⟨rfl, blB⟩; have EB0 : Blk wB _ _ _ := K0.to (by repeat (first | (with_reducible exact Below.refl _ _) | refine below_drw ?_ | refine below_bx2 ?_ _ | refine below_to ?_ (by assumption))); have EB2 : Blk wB _ _ _ := K2.to (by repeat (first | (with_reducible exact Below.refl _ _) | refine below_drw ?_ | refine below_bx2 ?_ _ | refine below_to ?_ (by assumption))); have u2 := EB0.cell0 (i := 2) rfl; have u3 := EB0.cell0 (i := 3) rfl; have uf2 := EB0.free 2; have uf3 := EB0.free 3))
    all_goals
      have b8 : Below w.heap.size w wB := below_to bV (by repeat (first | (with_reducible exact Below.refl _ _) | refine below_drw ?_ | refine below_bx2 ?_ _ | refine below_to ?_ (by assumption)))
      have F0 := nrw_set2 EB0 (.int .i64 y1) (.int .i64 y2)
      have F2 := blk_far (blk_far EB2 (p := ⟨w.heap.size, 2, none⟩) (.int .i64 y1) (by simp; omega)) (p := ⟨w.heap.size, 3, none⟩) (.int .i64 y2) (by simp; omega)
      have b9 := (b8.setCell (p := ⟨w.heap.size, 2, none⟩) (Nat.le_refl _) (.int .i64 y1)).setCell (p := ⟨w.heap.size, 3, none⟩) (Nat.le_refl _) (.int .i64 y2)
      clear b8 EB0 EB2 r2 r3 u2 u3 uf2 uf3 EA0 EA1
      have z0 := F2.cell0 (i := 0) (v := .int .i64 0) rfl
      have z1 := F2.cell0 (i := 1) (v := .int .i64 0) rfl
      have z2 := F2.cell0 (i := 2) (v := .int .i64 0) rfl
      have z3 := F2.cell0 (i := 3) (v := .int .i64 0) rfl
      have f0 := F2.free 0
      have f1 := F2.free 1
      have f2 := F2.free 2
      have f3 := F2.free 3
      have g0 := F0.cell0 (i := 0) (v := .int .i64 l1) rfl
      have g1 := F0.cell0 (i := 1) (v := .int .i64 l2) rfl
      have g2 := F0.cell0 (i := 2) (v := .int .i64 y1) rfl
      have g3 := F0.cell0 (i := 3) (v := .int .i64 y2) rfl
      go_wp2_with fail
      exact bodyPost_ret (v := .agg #[.int .i64 l1, .int .i64 l2, .int .i64 y1, .int .i64 y2]) (by simp [results, Tryz.results102, go_sem, z0, z1, z2, z3]) rfl ⟨by rw [HN.out], ((((b9.setCell (p := ⟨w.heap.size + 1 + 1, 0, none⟩) (Nat.le_add_right _ 2) (.int .i64 l1)).setCell (p := ⟨w.heap.size + 1 + 1, 1, none⟩) (Nat.le_add_right _ 2) (.int .i64 l2)).setCell (p := ⟨w.heap.size + 1 + 1, 2, none⟩) (Nat.le_add_right _ 2) (.int .i64 y1)).setCell (p := ⟨w.heap.size + 1 + 1, 3, none⟩) (Nat.le_add_right _ 2) (.int .i64 y2))⟩
  · by_cases p2 : n < 0
    · have HN := Lib.hid (show nrwP n tN tD l1 l2 h1 h2 = (maxP l1 l2 (ofN (-tN) (-(tD * n))) (ofD (-tN) (-(tD * n))), (h1, h2)) by unfold nrwP; rw [if_neg p1, if_pos p2])
      have m2 : 1 * 1 ≤ tD * -n := Int.mul_le_mul hD.1 (by omega) (by omega) (by omega)
      rw [Int.mul_neg] at m2
      have HO := Lib.hid (fun V => impl_ofneg tN (tD * n) V hT (by omega))
      obtain ⟨_, ok, _⟩ := lxo_ok (n := -tN) (d := -(tD * n)) (by omega) (by omega)
      obtain ⟨k1, _, k3, k4, _⟩ := (okR_iff _ _).1 ok
      have HM := Lib.hid (fun V => impl_max l1 l2 (ofN (-tN) (-(tD * n))) (ofD (-tN) (-(tD * n))) V hl1.1 hl1.2 hl2.1 hl2.2 (by omega) (by omega) (by omega) (by omega))
      clear ok k1 k3 k4 hl1 hl2 hh1 hh2
      generalize ofN (-tN) (-(tD * n)) = o1 at *
      generalize ofD (-tN) (-(tD * n)) = o2 at *
      generalize maxP l1 l2 o1 o2 = y at *
      obtain ⟨y1, y2⟩ := y
      simp only at HM HN
      have q0 := K0.cell0 (i := 0) rfl
      have q1 := K0.cell0 (i := 1) rfl
      have t0' := K1.cell0 (i := 0) rfl
      have t1' := K1.cell0 (i := 1) rfl
      have e1 : IntKind.i64.wrap (tD * n) = tD * n := IntWalk.i64_in _ (by omega)
      go_wp2_with fail
      go_region_with (first | (go_at_call 30; (with_reducible refine (HO.out _).mono ?_); rintro e wA ⟨rfl, blA⟩; have EA0 : Blk wA _ _ _ := K0.to (by repeat (first | (with_reducible exact Below.refl _ _) | refine below_drw ?_ | refine below_bx2 ?_ _ | refine below_to ?_ (by assumption))); have EA1 : Blk wA _ _ _ := K1.to (by repeat (first | (with_reducible exact Below.refl _ _) | refine below_drw ?_ | refine below_bx2 ?_ _ | refine below_to ?_ (by assumption))); have r2 := EA0.cell0 (i := 0) rfl; have r3 := EA0.cell0 (i := 1) rfl) | (go_at_call 78; (with_reducible refine (HM.out _).mono ?_); rintro e wB ⟨rfl, blB⟩; have EB0 : Blk wB _ _ _ := K0.to (by repeat (first | (with_reducible exact Below.refl _ _) | refine below_drw ?_ | refine below_bx2 ?_ _ | refine below_to ?_ (by assumption))); have EB2 : Blk wB _ _ _ := K2.to (by repeat (first | (with_reducible exact Below.refl _ _) | refine below_drw ?_ | refine below_bx2 ?_ _ | refine below_to ?_ (by assumption))); have u2 := EB0.cell0 (i := 0) rfl; have u3 := EB0.cell0 (i := 1) rfl; have uf2 := EB0.free 0; have uf3 := EB0.free 1))
      all_goals
        have b8 : Below w.heap.size w wB := below_to bV (by repeat (first | (with_reducible exact Below.refl _ _) | refine below_drw ?_ | refine below_bx2 ?_ _ | refine below_to ?_ (by assumption)))
        have F0 := nrw_set0 EB0 (.int .i64 y1) (.int .i64 y2)
        have F2 := blk_far (blk_far EB2 (p := ⟨w.heap.size, 0, none⟩) (.int .i64 y1) (by simp; omega)) (p := ⟨w.heap.size, 1, none⟩) (.int .i64 y2) (by simp; omega)
        have b9 := (b8.setCell (p := ⟨w.heap.size, 0, none⟩) (Nat.le_refl _) (.int .i64 y1)).setCell (p := ⟨w.heap.size, 1, none⟩) (Nat.le_refl _) (.int .i64 y2)
        clear b8 EB0 EB2 r2 r3 u2 u3 uf2 uf3 EA0 EA1
        have z0 := F2.cell0 (i := 0) (v := .int .i64 0) rfl
        have z1 := F2.cell0 (i := 1) (v := .int .i64 0) rfl
        have z2 := F2.cell0 (i := 2) (v := .int .i64 0) rfl
        have z3 := F2.cell0 (i := 3) (v := .int .i64 0) rfl
        have f0 := F2.free 0
        have f1 := F2.free 1
        have f2 := F2.free 2
        have f3 := F2.free 3
        have g0 := F0.cell0 (i := 0) (v := .int .i64 y1) rfl
        have g1 := F0.cell0 (i := 1) (v := .int .i64 y2) rfl
        have g2 := F0.cell0 (i := 2) (v := .int .i64 h1) rfl
        have g3 := F0.cell0 (i := 3) (v := .int .i64 h2) rfl
        go_wp2_with fail
        exact bodyPost_ret (v := .agg #[.int .i64 y1, .int .i64 y2, .int .i64 h1, .int .i64 h2]) (by simp [results, Tryz.results102, go_sem, z0, z1, z2, z3]) rfl ⟨by rw [HN.out], ((((b9.setCell (p := ⟨w.heap.size + 1 + 1, 0, none⟩) (Nat.le_add_right _ 2) (.int .i64 y1)).setCell (p := ⟨w.heap.size + 1 + 1, 1, none⟩) (Nat.le_add_right _ 2) (.int .i64 y2)).setCell (p := ⟨w.heap.size + 1 + 1, 2, none⟩) (Nat.le_add_right _ 2) (.int .i64 h1)).setCell (p := ⟨w.heap.size + 1 + 1, 3, none⟩) (Nat.le_add_right _ 2) (.int .i64 h2))⟩
    · have t0' := K1.cell0 (i := 0) (v := .int .i64 tN) rfl
      by_cases p3 : tN < 0
      · have HN := Lib.hid (show nrwP n tN tD l1 l2 h1 h2 = ((0, 0), (0, 0)) by unfold nrwP; rw [if_neg p1, if_neg p2, if_pos p3])
        have z0 := K2.cell0 (i := 0) (v := .int .i64 0) rfl
        have z1 := K2.cell0 (i := 1) (v := .int .i64 0) rfl
        have z2 := K2.cell0 (i := 2) (v := .int .i64 0) rfl
        have z3 := K2.cell0 (i := 3) (v := .int .i64 0) rfl
        have f0 := K2.free 0
        have f1 := K2.free 1
        have f2 := K2.free 2
        have f3 := K2.free 3
        go_wp2_with fail
        exact bodyPost_ret (v := .agg #[.int .i64 0, .int .i64 0, .int .i64 0, .int .i64 0]) (by simp [results, Tryz.results102, go_sem, z0, z1, z2, z3]) rfl ⟨by rw [HN.out], ((((bV.setCell (p := ⟨w.heap.size + 1 + 1, 0, none⟩) (Nat.le_add_right _ 2) (.int .i64 0)).setCell (p := ⟨w.heap.size + 1 + 1, 1, none⟩) (Nat.le_add_right _ 2) (.int .i64 0)).setCell (p := ⟨w.heap.size + 1 + 1, 2, none⟩) (Nat.le_add_right _ 2) (.int .i64 0)).setCell (p := ⟨w.heap.size + 1 + 1, 3, none⟩) (Nat.le_add_right _ 2) (.int .i64 0))⟩
      · have HN := Lib.hid (show nrwP n tN tD l1 l2 h1 h2 = ((l1, l2), (h1, h2)) by unfold nrwP; rw [if_neg p1, if_neg p2, if_neg p3])
        have z0 := K2.cell0 (i := 0) (v := .int .i64 0) rfl
        have z1 := K2.cell0 (i := 1) (v := .int .i64 0) rfl
        have z2 := K2.cell0 (i := 2) (v := .int .i64 0) rfl
        have z3 := K2.cell0 (i := 3) (v := .int .i64 0) rfl
        have f0 := K2.free 0
        have f1 := K2.free 1
        have f2 := K2.free 2
        have f3 := K2.free 3
        have g0 := K0.cell0 (i := 0) (v := .int .i64 l1) rfl
        have g1 := K0.cell0 (i := 1) (v := .int .i64 l2) rfl
        have g2 := K0.cell0 (i := 2) (v := .int .i64 h1) rfl
        have g3 := K0.cell0 (i := 3) (v := .int .i64 h2) rfl
        go_wp2_with fail
        exact bodyPost_ret (v := .agg #[.int .i64 l1, .int .i64 l2, .int .i64 h1, .int .i64 h2]) (by simp [results, Tryz.results102, go_sem, z0, z1, z2, z3]) rfl ⟨by rw [HN.out], ((((bV.setCell (p := ⟨w.heap.size + 1 + 1, 0, none⟩) (Nat.le_add_right _ 2) (.int .i64 l1)).setCell (p := ⟨w.heap.size + 1 + 1, 1, none⟩) (Nat.le_add_right _ 2) (.int .i64 l2)).setCell (p := ⟨w.heap.size + 1 + 1, 2, none⟩) (Nat.le_add_right _ 2) (.int .i64 h1)).setCell (p := ⟨w.heap.size + 1 + 1, 3, none⟩) (Nat.le_add_right _ 2) (.int .i64 h2))⟩
open Go.RowKit
open Geo (H3)

theorem fo_set {W : World} {B : Nat} {t : TypeId} {a0 a1 a2 a3 : Value} (h : Blk W B #[a0, a1, a2, a3] t) (u v x y : Value) : Blk ((((W.setCell ⟨B, 0, none⟩ u).setCell ⟨B, 1, none⟩ v).setCell ⟨B, 2, none⟩ x).setCell ⟨B, 3, none⟩ y) B #[u, v, x, y] t :=
  heap_setCell_same _ B 3 _ t y (heap_setCell_same _ B 2 _ t x (heap_setCell_same _ B 1 _ t v (heap_setCell_same W B 0 _ t u h)))
theorem fo_far {W : World} {B C : Nat} {t : TypeId} {cs : Array Value} (h : Blk W C cs t) (n : B ≠ C) (u v x y : Value) : Blk ((((W.setCell ⟨B, 0, none⟩ u).setCell ⟨B, 1, none⟩ v).setCell ⟨B, 2, none⟩ x).setCell ⟨B, 3, none⟩ y) C cs t :=
  blk_far (blk_far (blk_far (blk_far h (p := ⟨B, 0, none⟩) u n) (p := ⟨B, 1, none⟩) v n) (p := ⟨B, 2, none⟩) x n) (p := ⟨B, 3, none⟩) y n
theorem fo_bel {n : Nat} {w W : World} {B : Nat} (h : Below n w W) (k : n ≤ B) (u v x y : Value) : Below n w ((((W.setCell ⟨B, 0, none⟩ u).setCell ⟨B, 1, none⟩ v).setCell ⟨B, 2, none⟩ x).setCell ⟨B, 3, none⟩ y) :=
  (((h.setCell (p := ⟨B, 0, none⟩) k u).setCell (p := ⟨B, 1, none⟩) k v).setCell (p := ⟨B, 2, none⟩) k x).setCell (p := ⟨B, 3, none⟩) k y
set_option maxRecDepth 100000 in
set_option maxHeartbeats 2000000 in
theorem impl_fold (f : Nat) (caps : List Value) (ef : ∀ args w, (callFunc f args).run Tryz.prog w = .ok (.enter f args) w) (q1 q2 q3 q4 : Nat → Int) (a : Option Addr) (n ca : Nat) (es : List H3) (w : World) (hl : es.length = n) (hn : n ≤ 1048576) (hA : HsAt w a es)
    (hC : ∀ (k : Nat) (h : H3) (V : World), es[k]? = some h → Below w.heap.size w V → Calls Tryz.prog f ((.agg #[.int .i64 (q1 k), .int .i64 (q2 k), .int .i64 (q3 k), .int .i64 (q4 k)] :: .agg #[.int .i64 h.a, .int .i64 h.b, .int .i64 h.c] :: caps).toArray) V fun e w' => e = .returned (.agg #[.int .i64 (q1 (k + 1)), .int .i64 (q2 (k + 1)), .int .i64 (q3 (k + 1)), .int .i64 (q4 (k + 1))]) ∧ Below V.heap.size V w') :
    Calls Tryz.prog 100 #[.agg #[.int .i64 (q1 0), .int .i64 (q2 0), .int .i64 (q3 0), .int .i64 (q4 0)], .slice a n ca, .func (.func f) #[] caps.toArray] w fun e w' => e = .returned (.agg #[.int .i64 (q1 n), .int .i64 (q2 n), .int .i64 (q3 n), .int .i64 (q4 n)]) ∧ Below w.heap.size w w' := by
  have bV := below_bx2 (below_one w (.cells #[.int .i64 (q1 0), .int .i64 (q2 0), .int .i64 (q3 0), .int .i64 (q4 0)] 35)) (.cells #[.int .i64 0, .int .i64 0, .int .i64 0, .int .i64 0] 35)
  have K0 := (blk_new w #[.int .i64 (q1 0), .int .i64 (q2 0), .int .i64 (q3 0), .int .i64 (q4 0)] 35 (b := w.heap.size) (by simp)).to (below_one _ (.cells #[.int .i64 0, .int .i64 0, .int .i64 0, .int .i64 0] 35))
  have K1 := blk_new (w.alloc (.cells #[.int .i64 (q1 0), .int .i64 (q2 0), .int .i64 (q3 0), .int .i64 (q4 0)] 35)) #[.int .i64 0, .int .i64 0, .int .i64 0, .int .i64 0] 35 (b := w.heap.size + 1) (by simp)
  have HC := Lib.hid hC
  have HA := Lib.hid hA
  have HL := Lib.hid hl
  clear hl hA hC
  go_enter Tryz.func100, Tryz.ntmps100
  go_wp2
  generalize ((w.alloc (.cells #[.int .i64 (q1 0), .int .i64 (q2 0), .int .i64 (q3 0), .int .i64 (q4 0)] 35)).alloc (.cells #[.int .i64 0, .int .i64 0, .int .i64 0, .int .i64 0] 35)) = V at *
  go_loopw [11] (fun i wr => ∃ k : Nat, k ≤ n ∧ i = .int .i64 k ∧ Below w.heap.size w wr ∧ Blk wr w.heap.size #[.int .i64 (q1 k), .int .i64 (q2 k), .int .i64 (q3 k), .int .i64 (q4 k)] 35 ∧ Blk wr (w.heap.size + 1) #[.int .i64 0, .int .i64 0, .int .i64 0, .int .i64 0] 35) (fun i _ => n - (intOf i).toNat)
  case atStart => exact ⟨0, Nat.zero_le _, rfl, bV, K0, K1⟩
  case round =>
    obtain ⟨k, hk, rfl, hbw, hK, hZ⟩ := hrel
    by_cases hlt : k < n
    · obtain ⟨⟨xa, xb, xc⟩, hx⟩ : ∃ x, es[k]? = some x := ⟨_, List.getElem?_eq_getElem (by rw [HL.out]; exact hlt)⟩
      have HX := Lib.hid hx
      obtain ⟨g, o, rfl, hcx⟩ := HA.out k _ hx
      obtain ⟨t1, t2, t3⟩ := hcx.to hbw
      simp only at t1 t2 t3
      have bX := below_bx2 hbw (.cells #[.int .i64 xa, .int .i64 xb, .int .i64 xc] 104)
      have HD := Lib.hid (HC.out k ⟨xa, xb, xc⟩ _ hx bX)
      clear hx hcx
      simp only at HD
      have bN := below_one wr (.cells #[.int .i64 xa, .int .i64 xb, .int .i64 xc] 104)
      have K := hK.to bN
      have Z := hZ.to bN
      have c0 := K.cell0 (i := 0) (v := .int .i64 (q1 k)) rfl
      have c1 := K.cell0 (i := 1) (v := .int .i64 (q2 k)) rfl
      have c2 := K.cell0 (i := 2) (v := .int .i64 (q3 k)) rfl
      have c3 := K.cell0 (i := 3) (v := .int .i64 (q4 k)) rfl
      go_wp2_with fail
      refine HD.out.mono ?_
      rintro e w4 ⟨rfl, bl4⟩
      have b4 := below_to bX bl4
      have K2 := K.to bl4
      have Z2 := Z.to bl4
      clear bX bN hK hZ K Z bl4 t1 t2 t3 c0 c1 c2 c3
      have d0 := K2.cell0 (i := 0) (v := .int .i64 (q1 k)) rfl
      have d1 := K2.cell0 (i := 1) (v := .int .i64 (q2 k)) rfl
      have d2 := K2.cell0 (i := 2) (v := .int .i64 (q3 k)) rfl
      have d3 := K2.cell0 (i := 3) (v := .int .i64 (q4 k)) rfl
      have f0 := K2.free 0
      have f1 := K2.free 1
      have f2 := K2.free 2
      have f3 := K2.free 3
      have K3 := Lib.hid (fo_set K2 (.int .i64 (q1 (k + 1))) (.int .i64 (q2 (k + 1))) (.int .i64 (q3 (k + 1))) (.int .i64 (q4 (k + 1))))
      have Z3 := Lib.hid (fo_far Z2 (B := w.heap.size) (by omega) (.int .i64 (q1 (k + 1))) (.int .i64 (q2 (k + 1))) (.int .i64 (q3 (k + 1))) (.int .i64 (q4 (k + 1))))
      have b5 := Lib.hid (fo_bel b4 (B := w.heap.size) (Nat.le_refl _) (.int .i64 (q1 (k + 1))) (.int .i64 (q2 (k + 1))) (.int .i64 (q3 (k + 1))) (.int .i64 (q4 (k + 1))))
      clear K2 Z2 b4
      go_wp2_with fail
      go_roundw
      case rel => exact ⟨k + 1, by omega, by go_num, b5.out, K3.out, Z3.out⟩
      case measure => simp [intOf]; omega
    · have hkn : k = n := by omega
      subst hkn
      have d0 := hK.cell0 (i := 0) (v := .int .i64 (q1 k)) rfl
      have d1 := hK.cell0 (i := 1) (v := .int .i64 (q2 k)) rfl
      have d2 := hK.cell0 (i := 2) (v := .int .i64 (q3 k)) rfl
      have d3 := hK.cell0 (i := 3) (v := .int .i64 (q4 k)) rfl
      have z0 := hZ.cell0 (i := 0) (v := .int .i64 0) rfl
      have z1 := hZ.cell0 (i := 1) (v := .int .i64 0) rfl
      have z2 := hZ.cell0 (i := 2) (v := .int .i64 0) rfl
      have z3 := hZ.cell0 (i := 3) (v := .int .i64 0) rfl
      have f0 := hZ.free 0
      have f1 := hZ.free 1
      have f2 := hZ.free 2
      have f3 := hZ.free 3
      go_wp2_with fail
      exact bodyPost_ret (v := .agg #[.int .i64 (q1 k), .int .i64 (q2 k), .int .i64 (q3 k), .int .i64 (q4 k)]) (by simp [results, Tryz.results100, go_sem, z0, z1, z2, z3]) rfl ⟨rfl, fo_bel hbw (Nat.le_add_right _ 1) _ _ _ _⟩
end Go.Proofs.YtibkmhmeoelpdaaGreat
