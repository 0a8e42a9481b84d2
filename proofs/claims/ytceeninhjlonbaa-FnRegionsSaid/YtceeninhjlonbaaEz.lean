/- The model's sum of two fractions (small ones) over the translation. The model's half plane with a fraction, over the translation. ErodeRegion of the model over the translation. -/
import Derived.Test.YtceeninhjlonbaaEg
namespace Go.Proofs.Ytceeninhjlonbaa
open Go.RowKit Go.Shelf
open Geo (H3)

theorem quo_most {D : Int} (h1 : 1 ≤ D) (h2 : D ≤ 5000000000) : 1800000000 ≤ (9000000000000000000 : Int).tdiv D ∧ (9000000000000000000 : Int).tdiv D ≤ 9000000000000000000 := by
  rw [Int.tdiv_eq_ediv_of_nonneg (by omega)]
  refine ⟨(Int.le_ediv_iff_mul_le (by omega)).2 (by omega), ?_⟩
  exact Int.ediv_le_self _ (by omega)
set_option maxRecDepth 100000 in
set_option maxHeartbeats 1600000 in
theorem spec_sum (C M D : Int) (w : World) (c1 : -100000000 ≤ C) (c2 : C ≤ 100000000) (m1 : -500000000000000000 ≤ M) (m2 : M ≤ 500000000000000000) (d1 : 1 ≤ D) (d2 : D ≤ 5000000000) (g : Int.gcd (C * D + M) D = 1) :
    Calls Try.prog 78 #[.agg #[.int .i64 C, .int .i64 1], .agg #[.int .i64 M, .int .i64 D]] w fun e w' => e = .returned (.tuple #[.agg #[.int .i64 (C * D + M), .int .i64 D], .bool true]) ∧ Below w.heap.size w w' := by
  obtain ⟨p1, p2⟩ := quo_most d1 d2
  have p3 : (9000000000000000000 : Int).tdiv 1 = 9000000000000000000 := by decide
  have mm := mul_in C D 100000000 5000000000 c1 c2 (by omega) d2
  have HO := Lib.hid (fun W => spec_of (C * D + M) D (C * D + M) D W (by omega) (by omega) (by omega) (by omega) (by rw [g]; simp) (by rw [g]; simp) (by omega) (by omega) (by omega) (by omega) (by rw [g]; simp) ((okR_iff _ _).2 ⟨d1, by omega, by omega, by omega, g⟩))
  have HK := Lib.hid (fun W => spec_ok (C * D + M) D W (by omega) (by omega) (by omega) (by omega))
  rw [(okR_iff (C * D + M) D).2 ⟨d1, by omega, by omega, by omega, g⟩] at HK
  clear g
  have bV := below_bx2 (below_bx2 (below_one w (.cells #[.int .i64 C, .int .i64 1] 43)) (.cells #[.int .i64 M, .int .i64 D] 43)) (.cells #[.int .i64 0, .int .i64 0] 43)
  have B0 := (blk_new w #[.int .i64 C, .int .i64 1] 43 rfl).to (below_bx2 (below_one _ (.cells #[.int .i64 M, .int .i64 D] 43)) (.cells #[.int .i64 0, .int .i64 0] 43))
  have B1 := (blk_new (w.alloc (.cells #[.int .i64 C, .int .i64 1] 43)) #[.int .i64 M, .int .i64 D] 43 (b := w.heap.size + 1) (by simp)).to (below_one _ (.cells #[.int .i64 0, .int .i64 0] 43))
  have B2 := blk_new ((w.alloc (.cells #[.int .i64 C, .int .i64 1] 43)).alloc (.cells #[.int .i64 M, .int .i64 D] 43)) #[.int .i64 0, .int .i64 0] 43 (b := w.heap.size + 1 + 1) (by simp)
  generalize eu : C * D = u at *
  generalize eq : (9000000000000000000 : Int).tdiv D = q at *
  go_enter Try.func78, Try.ntmps78
  go_wp2_with fail
  generalize ((w.alloc (.cells #[.int .i64 C, .int .i64 1] 43)).alloc (.cells #[.int .i64 M, .int .i64 D] 43)).alloc (.cells #[.int .i64 0, .int .i64 0] 43) = V at *
  have k1 := B0.cell0 (i := 0) rfl
  have k2 := B0.cell0 (i := 1) rfl
  have k3 := B1.cell0 (i := 0) rfl
  have k4 := B1.cell0 (i := 1) rfl
  have hD0 : ¬ D = 0 := by omega
  have v0 : IntKind.i64.wrap q = q := IntWalk.i64_in _ (by omega)
  have v1 : IntKind.i64.wrap (-C) = -C := IntWalk.i64_in _ (by omega)
  have v2 : IntKind.i64.wrap (-M) = -M := IntWalk.i64_in _ (by omega)
  have v3 : IntKind.i64.wrap 9000000000000000000 = 9000000000000000000 := by decide
  have x1 : decide (q < max C (-C)) = false := decide_eq_false (by omega)
  have x2 : decide (9000000000000000000 < max M (-M)) = false := decide_eq_false (by omega)
  have x3 : decide (q < 1) = false := decide_eq_false (by omega)
  go_region
  all_goals go_wp2_with fail
  all_goals
    refine (HO.out _).mono ?_
    rintro e w4 ⟨rfl, bl4⟩
    have b4 := below_to (below_drw bV) bl4
    replace B2 := B2.to (below_to (below_drw (Below.refl _ _)) bl4)
    clear k1 k2 k3 k4 B0 B1 bl4 bV HO v0 v1 v2 v3 x1 x2 x3 hD0 p1 p2 p3
    go_wp2_with fail
    have hbx : w.heap.size + 1 + 1 ≠ w4.heap.size := by have := B2.lt; omega
    obtain ⟨d1, d2, _, _⟩ := two_new w4 (.int .i64 (u + M)) (.int .i64 D) 43
    have bq := below_one w4 (.cells #[.int .i64 (u + M), .int .i64 D] 43)
    replace B2 := B2.to bq
    have b5 := below_to b4 bq
    clear bq b4
    generalize w4.alloc (.cells #[.int .i64 (u + M), .int .i64 D] 43) = X at *
    generalize w4.heap.size = bx at *
    have c1 : X.cell? ⟨w.heap.size + 1 + 1, 0, none⟩ = some (.int .i64 0) := B2.cell0 (i := 0) rfl
    have c2 : X.cell? ⟨w.heap.size + 1 + 1, 1, none⟩ = some (.int .i64 0) := B2.cell0 (i := 1) rfl
    go_region_held3 (fun w' => w'.cell? ⟨bx, 0, none⟩ = some (.int .i64 (u + M)) ∧ w'.cell? ⟨bx, 1, none⟩ = some (.int .i64 D))
      (first | (refine two_put hbx d1 d2 ?_; repeat (first | exact Below.refl _ _ | refine below_drw ?_ | refine below_to ?_ (by assumption))) | (refine twoc d1 d2 ?_; repeat (first | exact Below.refl _ _ | refine below_drw ?_ | refine below_to ?_ (by assumption))))
      ((go_at_call 117; (with_reducible refine (HK.out _).mono ?_); rintro e w6 ⟨rfl, bl6⟩; have E1 := B2.to (below_to (below_drw (Below.refl _ _)) bl6); have e1 : w6.cell? ⟨w.heap.size + 1 + 1, 0, none⟩ = some (.int .i64 0) := E1.cell0 (i := 0) rfl; have e2 : w6.cell? ⟨w.heap.size + 1 + 1, 1, none⟩ = some (.int .i64 0) := E1.cell0 (i := 1) rfl; have f1 := E1.free 0; have f2 := E1.free 1))
    all_goals
      have hc5 : ((w6.setCell ⟨w.heap.size + 1 + 1, 0, none⟩ (.int .i64 (u + M))).setCell ⟨w.heap.size + 1 + 1, 1, none⟩ (.int .i64 D)).cell? ⟨w.heap.size + 1 + 1, 0, none⟩ = some (.int .i64 (u + M)) := (blk_set2 E1 (.int .i64 (u + M)) (.int .i64 D)).cell0 (i := 0) rfl
      have hc6 : ((w6.setCell ⟨w.heap.size + 1 + 1, 0, none⟩ (.int .i64 (u + M))).setCell ⟨w.heap.size + 1 + 1, 1, none⟩ (.int .i64 D)).cell? ⟨w.heap.size + 1 + 1, 1, none⟩ = some (.int .i64 D) := (blk_set2 E1 (.int .i64 (u + M)) (.int .i64 D)).cell0 (i := 1) rfl
      have b6 := below_to b5 (below_to (below_drw (Below.refl _ _)) bl6)
      go_wp2_with fail
      exact bodyPost_ret (v := .tuple #[.agg #[.int .i64 (u + M), .int .i64 D], .bool true]) (by simp [results, Try.results78, go_sem, hc5, hc6]) rfl ⟨rfl, (b6.setCell (p := ⟨w.heap.size + 1 + 1, 0, none⟩) (Nat.le_add_right _ 2) _).setCell (p := ⟨w.heap.size + 1 + 1, 1, none⟩) (Nat.le_add_right _ 2) _⟩

/-- the model's half plane with a fraction as its C -/
def topB (A B N D : Int) : Bool := decide (D ≤ 50000) && hasH (A * D) (B * D) N
def topH (A B N D : Int) : H3 := if D ≤ 50000 then redH (A * D) (B * D) N else ⟨0, 0, 0⟩
theorem top_yes {A B N D : Int} (hD : D ≤ 50000) : topH A B N D = redH (A * D) (B * D) N ∧ topB A B N D = hasH (A * D) (B * D) N := ⟨if_pos hD, by unfold topB; rw [decide_eq_true hD]; simp⟩
theorem top_no {A B N D : Int} (hD : ¬ D ≤ 50000) : topH A B N D = ⟨0, 0, 0⟩ ∧ topB A B N D = false := ⟨if_neg hD, by unfold topB; rw [decide_eq_false hD]; simp⟩
/-- the model's answer is the program's -/
theorem top_er {qs : List H3} {h : H3} (hq : rokB qs = true) (ne : qs ≠ []) (k : okB h = true) : topB h.a h.b (h.c * erD qs h + -erN qs h) (erD qs h) = erB qs h ∧ (erB qs h = true → topH h.a h.b (h.c * erD qs h + -erN qs h) (erD qs h) = erM qs h) := by
  obtain ⟨_, _, _, _, _, g, _⟩ := er_in hq ne k
  rw [show h.c * erD qs h + -erN qs h = h.c * erD qs h - erN qs h from rfl]
  by_cases hD : erD qs h ≤ 50000
  · exact ⟨(top_yes hD).2, fun _ => (top_yes hD).1⟩
  · have e : erB qs h = false := er_big g (by omega) (ok_in k).2.2.2.1
    rw [e, (top_no hD).2]
    exact ⟨rfl, by simp⟩

end Go.Proofs.Ytceeninhjlonbaa
