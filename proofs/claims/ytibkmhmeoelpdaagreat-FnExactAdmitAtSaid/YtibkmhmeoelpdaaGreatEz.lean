/- The model's sum of two fractions (small ones) over the translation. The model's half plane with a fraction, over the translation. ErodeRegion of the model over the translation. -/
import Derived.Test.YtibkmhmeoelpdaaGreatEg
namespace Go.Proofs.YtibkmhmeoelpdaaGreat
open Go.RowKit Go.Shelf
open Geo (H3)

theorem quo_most {D : Int} (h1 : 1 ≤ D) (h2 : D ≤ 5000000000) : 1800000000 ≤ (9000000000000000000 : Int).tdiv D ∧ (9000000000000000000 : Int).tdiv D ≤ 9000000000000000000 := by
  rw [Int.tdiv_eq_ediv_of_nonneg (by omega)]
  refine ⟨(Int.le_ediv_iff_mul_le (by omega)).2 (by omega), ?_⟩
  exact Int.ediv_le_self _ (by omega)
set_option maxRecDepth 100000 in
set_option maxHeartbeats 1600000 in
theorem spec_sum (C M D : Int) (w : World) (c1 : -100000000 ≤ C) (c2 : C ≤ 100000000) (m1 : -500000000000000000 ≤ M) (m2 : M ≤ 500000000000000000) (d1 : 1 ≤ D) (d2 : D ≤ 5000000000) (g : Int.gcd (C * D + M) D = 1) :
    Calls Tryz.prog 132 #[.agg #[.int .i64 C, .int .i64 1], .agg #[.int .i64 M, .int .i64 D]] w fun e w' => e = .returned (.tuple #[.agg #[.int .i64 (C * D + M), .int .i64 D], .bool true]) ∧ Below w.heap.size w w' := by
  obtain ⟨p1, p2⟩ := quo_most d1 d2
  have p3 : (9000000000000000000 : Int).tdiv 1 = 9000000000000000000 := by decide
  have mm := mul_in C D 100000000 5000000000 c1 c2 (by omega) d2
  have HO := Lib.hid (fun W => spec_of (C * D + M) D (C * D + M) D W (by omega) (by omega) (by omega) (by omega) (by rw [g]; simp) (by rw [g]; simp) (by omega) (by omega) (by omega) (by omega) (by rw [g]; simp) ((okR_iff _ _).2 ⟨d1, by omega, by omega, by omega, g⟩))
  have HK := Lib.hid (fun W => spec_ok (C * D + M) D W (by omega) (by omega) (by omega) (by omega))
  rw [(okR_iff (C * D + M) D).2 ⟨d1, by omega, by omega, by omega, g⟩] at HK
  clear g
  have bV := below_bx2 (below_bx2 (below_one w (.cells #[.int .i64 C, .int .i64 1] 33)) (.cells #[.int .i64 M, .int .i64 D] 33)) (.cells #[.int .i64 0, .int .i64 0] 33)
  have B0 := (blk_new w #[.int .i64 C, .int .i64 1] 33 rfl).to (below_bx2 (below_one _ (.cells #[.int .i64 M, .int .i64 D] 33)) (.cells #[.int .i64 0, .int .i64 0] 33))
  have B1 := (blk_new (w.alloc (.cells #[.int .i64 C, .int .i64 1] 33)) #[.int .i64 M, .int .i64 D] 33 (b := w.heap.size + 1) (by simp)).to (below_one _ (.cells #[.int .i64 0, .int .i64 0] 33))
  have B2 := blk_new ((w.alloc (.cells #[.int .i64 C, .int .i64 1] 33)).alloc (.cells #[.int .i64 M, .int .i64 D] 33)) #[.int .i64 0, .int .i64 0] 33 (b := w.heap.size + 1 + 1) (by simp)
  generalize eu : C * D = u at *
  generalize eq : (9000000000000000000 : Int).tdiv D = q at *
  go_enter Tryz.func132, Tryz.ntmps132
  go_wp2_with fail
  generalize ((w.alloc (.cells #[.int .i64 C, .int .i64 1] 33)).alloc (.cells #[.int .i64 M, .int .i64 D] 33)).alloc (.cells #[.int .i64 0, .int .i64 0] 33) = V at *
  have k1 := B0.cell0 (i := 0) rfl
  have k2 := B0.cell0 (i := 1) rfl
  have k3 := B1.cell0 (i := 0) rfl
  have k4 := B1.cell0 (i := 1) rfl
  have hD0 : ¬ D = 0 := by omega
  have v0 : IntKind.i64.wrap q = q := IntWalk.i64_in _ (by omega)
  have v1 : IntKind.i64.wrap (-C) = -C := IntWalk.i64_in _ (by omega)
  have v2 : IntKind.i64.wrap (-M) = -M := IntWalk.i64_in _ (by omega)
  have v3 : IntKind.i64.wrap 9000000000000000000 = 9000000000000000000 := by decide
  have x1 : decide (q < max C (-C)) = false := decide_eq_false (by omega)
  have x2 : decide (9000000000000000000 < max M (-M)) = false := decide_eq_false (by omega)
  have x3 : decide (q < 1) = false := decide_eq_false (by omega)
  go_region
  all_goals go_wp2_with fail
  all_goals
    refine (HO.out _).mono ?_
    rintro e w4 ⟨rfl, bl4⟩
    have b4 := below_to (below_drw bV) bl4
    replace B2 := B2.to (below_to (below_drw (Below.refl _ _)) bl4)
    clear k1 k2 k3 k4 B0 B1 bl4 bV HO v0 v1 v2 v3 x1 x2 x3 hD0 p1 p2 p3
    go_wp2_with fail
    have hbx : w.heap.size + 1 + 1 ≠ w4.heap.size := by have := B2.lt; omega
    obtain ⟨d1, d2, _, _⟩ := two_new w4 (.int .i64 (u + M)) (.int .i64 D) 33
    have bq := below_one w4 (.cells #[.int .i64 (u + M), .int .i64 D] 33)
    replace B2 := B2.to bq
    have b5 := below_to b4 bq
    clear bq b4
    generalize w4.alloc (.cells #[.int .i64 (u + M), .int .i64 D] 33) = X at *
    generalize w4.heap.size = bx at *
    have c1 : X.cell? ⟨w.heap.size + 1 + 1, 0, none⟩ = some (.int .i64 0) := B2.cell0 (i := 0) rfl
    have c2 : X.cell? ⟨w.heap.size + 1 + 1, 1, none⟩ = some (.int .i64 0) := B2.cell0 (i := 1) rfl
    go_region_held3 (fun w' => w'.cell? ⟨bx, 0, none⟩ = some (.int .i64 (u + M)) ∧ w'.cell? ⟨bx, 1, none⟩ = some (.int .i64 D))
      (first | (refine two_put hbx d1 d2 ?_; repeat (first | exact Below.refl _ _ | refine below_drw ?_ | refine below_to ?_ (by assumption))) | (refine twoc d1 d2 ?_; repeat (first | exact Below.refl _ _ | refine below_drw ?_ | refine below_to ?_ (by assumption))))
      ((go_at_call 134; (with_reducible refine (HK.out _).mono ?_); rintro e w6 ⟨rfl, bl6⟩; have E1 := B2.to (below_to (below_drw (Below.refl _ _)) bl6); have e1 : w6.cell? ⟨w.heap.size + 1 + 1, 0, none⟩ = some (.int .i64 0) := E1.cell0 (i := 0) rfl; have e2 : w6.cell? ⟨w.heap.size + 1 + 1, 1, none⟩ = some (.int .i64 0) := E1.cell0 (i := 1) rfl; have f1 := E1.free 0; have f2 := E1.free 1))
    all_goals
      have hc5 : ((w6.setCell ⟨w.heap.size + 1 + 1, 0, none⟩ (.int .i64 (u + M))).setCell ⟨w.heap.size + 1 + 1, 1, none⟩ (.int .i64 D)).cell? ⟨w.heap.size + 1 + 1, 0, none⟩ = some (.int .i64 (u + M)) := (blk_set2 E1 (.int .i64 (u + M)) (.int .i64 D)).cell0 (i := 0) rfl
      have hc6 : ((w6.setCell ⟨w.heap.size + 1 + 1, 0, none⟩ (.int .i64 (u + M))).setCell ⟨w.heap.size + 1 + 1, 1, none⟩ (.int .i64 D)).cell? ⟨w.heap.size + 1 + 1, 1, none⟩ = some (.int .i64 D) := (blk_set2 E1 (.int .i64 (u + M)) (.int .i64 D)).cell0 (i := 1) rfl
      have b6 := below_to b5 (below_to (below_drw (Below.refl _ _)) bl6)
      go_wp2_with fail
      exact bodyPost_ret (v := .tuple #[.agg #[.int .i64 (u + M), .int .i64 D], .bool true]) (by simp [results, Tryz.results132, go_sem, hc5, hc6]) rfl ⟨rfl, (b6.setCell (p := ⟨w.heap.size + 1 + 1, 0, none⟩) (Nat.le_add_right _ 2) _).setCell (p := ⟨w.heap.size + 1 + 1, 1, none⟩) (Nat.le_add_right _ 2) _⟩

/-- the model's half plane with a fraction as its C -/
def topB (A B N D : Int) : Bool := decide (D ≤ 50000) && hasH (A * D) (B * D) N
def topH (A B N D : Int) : H3 := if D ≤ 50000 then redH (A * D) (B * D) N else ⟨0, 0, 0⟩
theorem top_yes {A B N D : Int} (hD : D ≤ 50000) : topH A B N D = redH (A * D) (B * D) N ∧ topB A B N D = hasH (A * D) (B * D) N := ⟨if_pos hD, by unfold topB; rw [decide_eq_true hD]; simp⟩
theorem top_no {A B N D : Int} (hD : ¬ D ≤ 50000) : topH A B N D = ⟨0, 0, 0⟩ ∧ topB A B N D = false := ⟨if_neg hD, by unfold topB; rw [decide_eq_false hD]; simp⟩
set_option maxRecDepth 100000 in
set_option maxHeartbeats 1600000 in
theorem spec_top1 (A B N D : Int) (w : World) (iA : In5 A) (iB : In5 B) (n1 : -1000000000000000000 ≤ N) (n2 : N ≤ 1000000000000000000) (d1 : 1 ≤ D) (d2 : D ≤ 5000000000) (g : Int.gcd N D = 1) (hD : D ≤ 50000) :
    Calls Tryz.prog 133 #[.int .i64 A, .int .i64 B, .agg #[.int .i64 N, .int .i64 D]] w fun e w' => e = .returned (.tuple #[.agg #[.int .i64 (topH A B N D).a, .int .i64 (topH A B N D).b, .int .i64 (topH A B N D).c], .bool (topB A B N D)]) ∧ Below w.heap.size w w' := by
  have HK := Lib.hid (fun W => spec_ok N D W (by omega) (by omega) (by omega) (by omega))
  rw [(okR_iff N D).2 ⟨d1, by omega, by omega, by omega, g⟩] at HK
  have m1 := mul_in A D 50000 5000000000 iA.1 iA.2 (by omega) d2
  have m2 := mul_in B D 50000 5000000000 iB.1 iB.2 (by omega) d2
  have HH := Lib.hid (fun W => spec_hof (A * D) (B * D) N W (by omega) (by omega) (by omega) (by omega) (by omega) (by omega))
  rw [ans_red] at HH
  have bV := below_bx2 (below_one w (.cells #[.int .i64 N, .int .i64 D] 33)) (.cells #[.int .i64 0, .int .i64 0, .int .i64 0] 104)
  have B0 := (blk_new w #[.int .i64 N, .int .i64 D] 33 rfl).to (below_one _ (.cells #[.int .i64 0, .int .i64 0, .int .i64 0] 104))
  have T0 := has3_new (w.alloc (.cells #[.int .i64 N, .int .i64 D] 33)) (.int .i64 0) (.int .i64 0) (.int .i64 0) 104
  rw [show (w.alloc (.cells #[.int .i64 N, .int .i64 D] 33)).heap.size = w.heap.size + 1 by simp] at T0
  clear g
  rw [(top_yes hD).1, (top_yes hD).2]
  have x1 : decide (50000 < D) = false := decide_eq_false (by omega)
  generalize redH (A * D) (B * D) N = s at *
  generalize hasH (A * D) (B * D) N = r at *
  obtain ⟨sa, sb, sc⟩ := s
  simp only at HH ⊢
  generalize eu1 : A * D = u1 at *
  generalize eu2 : B * D = u2 at *
  go_enter Tryz.func133, Tryz.ntmps133
  go_wp2_with fail
  generalize (w.alloc (.cells #[.int .i64 N, .int .i64 D] 33)).alloc (.cells #[.int .i64 0, .int .i64 0, .int .i64 0] 104) = V at *
  refine (HK.out _).mono ?_
  rintro e w1 ⟨rfl, bl1⟩
  have b1 := below_to bV bl1
  have B1 := B0.to bl1
  have k1 := B1.cell0 (i := 0) rfl
  have k2 := B1.cell0 (i := 1) rfl
  have T1 := has3_to bl1 T0
  obtain ⟨t1, t2, t3, f1, f2, f3⟩ := T1
  clear bl1 B0 T0 HK bV
  go_wp2_with fail
  refine (HH.out _).mono ?_
  rintro e w2 ⟨rfl, bl2⟩
  have b2 := below_to b1 bl2
  obtain ⟨r1, r2, r3, g1, g2, g3⟩ := has3_to bl2 ⟨t1, t2, t3, f1, f2, f3⟩
  clear bl2 HH
  go_wp2_with fail
  exact bodyPost_ret (v := .tuple #[.agg #[.int .i64 sa, .int .i64 sb, .int .i64 sc], .bool r]) (by simp [results, Tryz.results133, go_sem, r1, r2, r3]) rfl ⟨rfl, ((b2.setCell (p := ⟨w.heap.size + 1, 0, none⟩) (by simp) _).setCell (p := ⟨w.heap.size + 1, 1, none⟩) (by simp) _).setCell (p := ⟨w.heap.size + 1, 2, none⟩) (by simp) _⟩
set_option maxRecDepth 100000 in
set_option maxHeartbeats 1600000 in
theorem spec_top (A B N D : Int) (w : World) (iA : In5 A) (iB : In5 B) (n1 : -1000000000000000000 ≤ N) (n2 : N ≤ 1000000000000000000) (d1 : 1 ≤ D) (d2 : D ≤ 5000000000) (g : Int.gcd N D = 1) :
    Calls Tryz.prog 133 #[.int .i64 A, .int .i64 B, .agg #[.int .i64 N, .int .i64 D]] w fun e w' => e = .returned (.tuple #[.agg #[.int .i64 (topH A B N D).a, .int .i64 (topH A B N D).b, .int .i64 (topH A B N D).c], .bool (topB A B N D)]) ∧ Below w.heap.size w w' := by
  by_cases hD : D ≤ 50000
  · exact spec_top1 A B N D w iA iB n1 n2 d1 d2 g hD
  have HK := Lib.hid (fun W => spec_ok N D W (by omega) (by omega) (by omega) (by omega))
  rw [(okR_iff N D).2 ⟨d1, by omega, by omega, by omega, g⟩] at HK
  have m1 := mul_in A D 50000 5000000000 iA.1 iA.2 (by omega) d2
  have m2 := mul_in B D 50000 5000000000 iB.1 iB.2 (by omega) d2
  have HH := Lib.hid (fun W => spec_hof (A * D) (B * D) N W (by omega) (by omega) (by omega) (by omega) (by omega) (by omega))
  rw [ans_red] at HH
  have bV := below_bx2 (below_one w (.cells #[.int .i64 N, .int .i64 D] 33)) (.cells #[.int .i64 0, .int .i64 0, .int .i64 0] 104)
  have B0 := (blk_new w #[.int .i64 N, .int .i64 D] 33 rfl).to (below_one _ (.cells #[.int .i64 0, .int .i64 0, .int .i64 0] 104))
  have T0 := has3_new (w.alloc (.cells #[.int .i64 N, .int .i64 D] 33)) (.int .i64 0) (.int .i64 0) (.int .i64 0) 104
  rw [show (w.alloc (.cells #[.int .i64 N, .int .i64 D] 33)).heap.size = w.heap.size + 1 by simp] at T0
  clear g
  rw [(top_no hD).1, (top_no hD).2]
  have x1 : decide (50000 < D) = true := decide_eq_true (by omega)
  go_enter Tryz.func133, Tryz.ntmps133
  go_wp2_with fail
  generalize (w.alloc (.cells #[.int .i64 N, .int .i64 D] 33)).alloc (.cells #[.int .i64 0, .int .i64 0, .int .i64 0] 104) = V at *
  refine (HK.out _).mono ?_
  rintro e w1 ⟨rfl, bl1⟩
  have b1 := below_to bV bl1
  have B1 := B0.to bl1
  have k1 := B1.cell0 (i := 0) rfl
  have k2 := B1.cell0 (i := 1) rfl
  have T1 := has3_to bl1 T0
  obtain ⟨t1, t2, t3, f1, f2, f3⟩ := T1
  clear bl1 B0 T0 HK bV
  go_wp2_with fail
  exact bodyPost_ret (v := .tuple #[.agg #[.int .i64 0, .int .i64 0, .int .i64 0], .bool false]) (by simp [results, Tryz.results133, go_sem, t1, t2, t3]) rfl ⟨rfl, ((b1.setCell (p := ⟨w.heap.size + 1, 0, none⟩) (by simp) _).setCell (p := ⟨w.heap.size + 1, 1, none⟩) (by simp) _).setCell (p := ⟨w.heap.size + 1, 2, none⟩) (by simp) _⟩
/-- the model's answer is the program's -/
theorem top_er {qs : List H3} {h : H3} (hq : rokB qs = true) (ne : qs ≠ []) (k : okB h = true) : topB h.a h.b (h.c * erD qs h + -erN qs h) (erD qs h) = erB qs h ∧ (erB qs h = true → topH h.a h.b (h.c * erD qs h + -erN qs h) (erD qs h) = erM qs h) := by
  obtain ⟨_, _, _, _, _, g, _⟩ := er_in hq ne k
  rw [show h.c * erD qs h + -erN qs h = h.c * erD qs h - erN qs h from rfl]
  by_cases hD : erD qs h ≤ 50000
  · exact ⟨(top_yes hD).2, fun _ => (top_yes hD).1⟩
  · have e : erB qs h = false := er_big g (by omega) (ok_in k).2.2.2.1
    rw [e, (top_no hD).2]
    exact ⟨rfl, by simp⟩

set_option maxRecDepth 100000 in
set_option maxHeartbeats 1600000 in
theorem spec_ero (a b : Option Addr) (n m ca cb : Nat) (ps qs : List H3) (w : World) (hl : ps.length = n) (hk : qs.length = m) (hn : n ≤ 1048576) (hm : m ≤ 1048576) (h64 : ∀ h ∈ ps, In64 h) (k64 : ∀ h ∈ qs, In64 h) (hz : a = none → n = 0 ∧ ca = 0) (hy : b = none → m = 0 ∧ cb = 0) (hA : HsAt w a ps) (hB : HsAt w b qs) :
    Calls Tryz.prog 91 #[.agg #[.slice a n ca], .agg #[.slice b m cb]] w (AnsR w (eroL ps qs) (eroB ps qs)) := by
  obtain ⟨i0, hi, hz0, hz1, hz2⟩ := info_parts Tryz.info34
  have bV := below_bx2 (below_bx2 (below_one w (.cells #[.slice a n ca] 40)) (.cells #[.slice b m cb] 40)) (.cells #[.slice none 0 0] 40)
  have q0 := cell_to (show (w.alloc (.cells #[.slice a n ca] 40)).cell? ⟨w.heap.size, 0, none⟩ = some (.slice a n ca) by simp) (below_bx2 (below_one _ (.cells #[.slice b m cb] 40)) (.cells #[.slice none 0 0] 40))
  have q1 := cell_to (box_one (U := w.alloc (.cells #[.slice a n ca] 40)) (b := w.heap.size + 1) (by simp) (.slice b m cb) 40).1 (below_one _ (.cells #[.slice none 0 0] 40))
  obtain ⟨q3, f3⟩ := box_one (U := (w.alloc (.cells #[.slice a n ca] 40)).alloc (.cells #[.slice b m cb] 40)) (b := w.heap.size + 1 + 1) (by simp) (.slice none 0 0) 40
  have HR := Lib.hid (fun V (h : Below w.heap.size w V) => spec_rok a n ca ps V hl hn h64 hz (hA.below h))
  have HQ := Lib.hid (fun V (h : Below w.heap.size w V) => spec_rok b m cb qs V hk hm k64 hy (hB.below h))
  have HV := Lib.hid (fun V => spec_void b m cb V)
  have HA := Lib.hid hA
  have HL := Lib.hid hl
  have HB := Lib.hid hB
  have HK := Lib.hid hk
  clear hl hA h64 hk hB k64 hz hy
  go_enter Tryz.func91, Tryz.ntmps91
  go_wp2_with fail
  generalize ((w.alloc (.cells #[.slice a n ca] 40)).alloc (.cells #[.slice b m cb] 40)).alloc (.cells #[.slice none 0 0] 40) = V at *
  refine (HR.out _ bV).mono ?_
  rintro e w1 ⟨rfl, bl1⟩
  have b1 := below_to bV bl1
  have p0 := cell_to q0 bl1
  have p1 := cell_to q1 bl1
  have p3 := cell_to q3 bl1
  have g3 : w1.frozen? ⟨w.heap.size + 1 + 1, 0, none⟩ = false := by rw [bl1.frozen (block_lt_of_cell q3)]; exact f3
  clear bV bl1 q0 q1 q3 f3 HR
  cases hr : rokB ps with
  | false =>
    have HN := Lib.hid (ero_no (qs := qs) (.inl hr))
    clear hr
    go_wp2_with fail
    exact bodyPost_ret (v := .tuple #[.agg #[.slice none 0 0], .bool false]) (by simp [results, Tryz.results91, go_sem, p3]) rfl (AnsR.no HN.out.1 HN.out.2 (b1.setCell (p := ⟨w.heap.size + 1 + 1, 0, none⟩) (Nat.le_add_right _ 2) _))
  | true =>
  have HP := Lib.hid hr
  clear hr
  go_wp2_with fail
  refine (HQ.out _ b1).mono ?_
  rintro e w2 ⟨rfl, bl2⟩
  have b2 := below_to b1 bl2
  have q0 := cell_to p0 bl2
  have q1 := cell_to p1 bl2
  have q3 := cell_to p3 bl2
  have f3 : w2.frozen? ⟨w.heap.size + 1 + 1, 0, none⟩ = false := by rw [bl2.frozen (block_lt_of_cell p3)]; exact g3
  clear b1 bl2 p0 p1 p3 g3 HQ
  cases hq : rokB qs with
  | false =>
    have HN := Lib.hid (ero_no (ps := ps) (.inr (.inl hq)))
    clear hq
    go_wp2_with fail
    exact bodyPost_ret (v := .tuple #[.agg #[.slice none 0 0], .bool false]) (by simp [results, Tryz.results91, go_sem, q3]) rfl (AnsR.no HN.out.1 HN.out.2 (b2.setCell (p := ⟨w.heap.size + 1 + 1, 0, none⟩) (Nat.le_add_right _ 2) _))
  | true =>
  have HO := Lib.hid hq
  clear hq
  go_wp2_with fail
  refine (HV.out _).mono ?_
  rintro e w3 ⟨rfl, bl3⟩
  have b3 := below_to b2 bl3
  have p0 := cell_to q0 bl3
  have p1 := cell_to q1 bl3
  have p3 := cell_to q3 bl3
  have g3 : w3.frozen? ⟨w.heap.size + 1 + 1, 0, none⟩ = false := by rw [bl3.frozen (block_lt_of_cell q3)]; exact f3
  clear b2 bl3 q0 q1 q3 f3 HV
  by_cases h0 : m = 0
  · have HN := Lib.hid (ero_no (ps := ps) (.inr (.inr (len_nil HK.out h0))))
    have hb0 : ((m : Int) == 0) = true := by subst h0; rfl
    go_wp2_with fail
    exact bodyPost_ret (v := .tuple #[.agg #[.slice none 0 0], .bool false]) (by simp [results, Tryz.results91, go_sem, p3]) rfl (AnsR.no HN.out.1 HN.out.2 (b3.setCell (p := ⟨w.heap.size + 1 + 1, 0, none⟩) (Nat.le_add_right _ 2) _))
  have hb0 : ((m : Int) == 0) = false := eq_b (by omega)
  have HE := Lib.hid (len_ne HK.out h0)
  have HY := Lib.hid (ero_yes HP.out HO.out HE.out)
  have hn40 : n ≤ 40 := by have := rok_len HP.out; have := HL.out; omega
  clear h0 hn
  have l3 := block_lt_of_cell p3
  simp only at l3
  have HO2 := Lib.hid (own3_empty' (B := w.heap.size + 3) w3 (b := w3.heap.size) rfl (by omega))
  have bE := below_one w3 (.cells #[] 104)
  have q0 := cell_to p0 bE
  have q1 := cell_to p1 bE
  have q3 := cell_to p3 bE
  have f3 : (w3.alloc (.cells #[] 104)).frozen? ⟨w.heap.size + 1 + 1, 0, none⟩ = false := by rw [bE.frozen (block_lt_of_cell p3)]; exact g3
  have b4 := below_to b3 bE
  have z4 : w.heap.size + 3 ≤ (w3.alloc (.cells #[] 104)).heap.size := by have := bE.size; omega
  clear bE
  go_wp2
  clear p0 p1 p3 g3 b3 l3 hb0
  generalize w3.alloc (.cells #[] 104) = V3 at *
  go_loopw [6, 32] (fun v i wr => ∃ (k : Nat) (ao : Option Addr) (cp : Nat), k ≤ n ∧ i = .int .i64 k ∧ v = .slice ao k cp ∧ (ps.take k).all (erB qs) = true ∧ wr.ownsRow (w.heap.size + 3) 104 3 (.slice ao k cp) k (flat ((ps.take k).map (erM qs))) ∧ Below w.heap.size w wr ∧ wr.cell? ⟨w.heap.size + 1, 0, none⟩ = some (.slice b m cb) ∧ wr.cell? ⟨w.heap.size + 1 + 1, 0, none⟩ = some (.slice none 0 0) ∧ wr.frozen? ⟨w.heap.size + 1 + 1, 0, none⟩ = false ∧ w.heap.size + 3 ≤ wr.heap.size) (fun _ i _ => n - (intOf i).toNat)
  case atStart => exact ⟨0, _, 0, Nat.zero_le _, rfl, rfl, by simp, by simpa using HO2.out, b4, q1, q3, f3, z4⟩
  case round =>
    clear q0 q1 q3 f3 b4 z4 HO2
    obtain ⟨k, ao, cp, hk, rfl, rfl, hall, hov, hbw, r0, r1, s1, hz⟩ := hrel
    have H0 := Lib.hid hov
    have HT := Lib.hid hall
    clear hov hall
    by_cases hlt : k < n
    · obtain ⟨⟨xa, xb, xc⟩, hx⟩ : ∃ x, ps[k]? = some x := ⟨_, List.getElem?_eq_getElem (by rw [HL.out]; exact hlt)⟩
      have HX := Lib.hid hx
      obtain ⟨g, o, rfl, hcx⟩ := HA.out k _ hx
      obtain ⟨t1, t2, t3⟩ := hcx.to hbw
      have hokx := rok_all HP.out _ (List.mem_of_getElem? hx)
      obtain ⟨_, _, ⟨m5, m6⟩, ⟨n1, n2⟩, ⟨d1, d2⟩, gg, _⟩ := er_in HO.out HE.out hokx
      obtain ⟨iA, iB, ⟨c1, c2⟩, _, _, _⟩ := ok_in hokx
      obtain ⟨tb, th⟩ := top_er HO.out HE.out hokx
      simp only at t1 t2 t3 m5 m6 iA iB c1 c2 tb th
      have HF := Lib.hid (fun W (h : Below w.heap.size w W) => spec_far b m cb qs xa xb W HK.out hm HO.out iA iB (HB.out.below h))
      have e1 : (farS xa xb qs m).2.1 = erN qs ⟨xa, xb, xc⟩ := by rw [← HK.out]; rfl
      have e2 : (farS xa xb qs m).2.2 = erD qs ⟨xa, xb, xc⟩ := by rw [← HK.out]; rfl
      rw [e1, e2] at HF
      have HS := Lib.hid (fun W => spec_sum xc (-erN qs ⟨xa, xb, xc⟩) (erD qs ⟨xa, xb, xc⟩) W c1 c2 (by omega) (by omega) d1 d2 (er_cop gg))
      have HU := Lib.hid (fun W => spec_top xa xb (xc * erD qs ⟨xa, xb, xc⟩ + -erN qs ⟨xa, xb, xc⟩) (erD qs ⟨xa, xb, xc⟩) W iA iB (by omega) (by omega) d1 d2 (er_cop gg))
      rw [tb] at HU
      obtain ⟨⟨qa, qb, qc⟩, hq⟩ : ∃ q, topH xa xb (xc * erD qs ⟨xa, xb, xc⟩ + -erN qs ⟨xa, xb, xc⟩) (erD qs ⟨xa, xb, xc⟩) = q := ⟨_, rfl⟩
      rw [hq] at HU th
      have HQ := Lib.hid th
      simp only at HU
      clear hx hcx hq tb th e1 e2 gg m5 m6 iA iB c1 c2 hokx
      generalize (farS xa xb qs m).1 = fk at *
      generalize erN qs ⟨xa, xb, xc⟩ = N at *
      generalize erD qs ⟨xa, xb, xc⟩ = D at *
      generalize xc * D + -N = NN at *
      have y1 := cell_to r0 (below_one wr (.cells #[.int .i64 xa, .int .i64 xb, .int .i64 xc] 104))
      have T1 := has3_new wr (.int .i64 xa) (.int .i64 xb) (.int .i64 xc) 104
      go_wp2_with fail
      refine (HF.out _ (below_bx2 hbw _)).mono ?_
      rintro e w4 ⟨rfl, bl4⟩
      have bY := below_to (below_one wr (.cells #[.int .i64 xa, .int .i64 xb, .int .i64 xc] 104)) bl4
      have T2 := has3_to (below_one w4 (.cells #[.int .i64 N, .int .i64 D] 33)) (has3_to bl4 T1)
      obtain ⟨x1, x2, x3, _, _, _⟩ := T2
      obtain ⟨v1, v2, _, _⟩ := two_new w4 (.int .i64 N) (.int .i64 D) 33
      have bY2 := below_bx2 bY (.cells #[.int .i64 N, .int .i64 D] 33)
      clear bY bl4 T1 HF y1 t1 t2 t3
      go_wp2_with fail
      refine (HS.out _).mono ?_
      rintro e w5 ⟨rfl, bl5⟩
      have bY := below_to bY2 bl5
      have x1 := cell_to (cell_to x1 bl5) (below_one w5 (.cells #[.int .i64 NN, .int .i64 D] 33))
      have x2 := cell_to (cell_to x2 bl5) (below_one w5 (.cells #[.int .i64 NN, .int .i64 D] 33))
      obtain ⟨v1, v2, _, _⟩ := two_new w5 (.int .i64 NN) (.int .i64 D) 33
      have bY3 := below_bx2 bY (.cells #[.int .i64 NN, .int .i64 D] 33)
      clear bY bY2 bl5 HS x3
      go_wp2_with fail
      refine (HU.out _).mono ?_
      rintro e w6 ⟨rfl, bl6⟩
      have bY := below_to bY3 bl6
      have b4 := below_to hbw bY
      have c0 := cell_to r0 bY
      have c1 := cell_to r1 bY
      have d1 : w6.frozen? ⟨w.heap.size + 1 + 1, 0, none⟩ = false := by rw [bY.frozen (block_lt_of_cell r1)]; exact s1
      have H4 := Lib.hid (own_below H0.out bY)
      have z4 := bY.size
      clear bY bY3 bl6 r0 r1 s1 H0 HU x1 x2 v1 v2 hbw
      cases hB : erB qs ⟨xa, xb, xc⟩ with
      | false =>
        have HN := Lib.hid (mv_no (B := erB qs) (M := erM qs) (fu := []) HX.out hB)
        rw [HY.out.1.symm, HY.out.2.symm] at HN
        clear hB
        have e1 := cell_to c1 (below_one w6 (.cells #[.int .i64 qa, .int .i64 qb, .int .i64 qc] 104))
        have e2 : (w6.alloc (.cells #[.int .i64 qa, .int .i64 qb, .int .i64 qc] 104)).frozen? ⟨w.heap.size + 1 + 1, 0, none⟩ = false := by rw [(below_one w6 (.cells #[.int .i64 qa, .int .i64 qb, .int .i64 qc] 104)).frozen (block_lt_of_cell c1)]; exact d1
        have b5 := below_bx2 b4 (.cells #[.int .i64 qa, .int .i64 qb, .int .i64 qc] 104)
        go_wp2_with fail
        exact bodyPost_ret (v := .tuple #[.agg #[.slice none 0 0], .bool false]) (by simp [results, Tryz.results91, go_sem, e1]) rfl (AnsR.no HN.out.1 HN.out.2 (b5.setCell (p := ⟨w.heap.size + 1 + 1, 0, none⟩) (Nat.le_add_right _ 2) _))
      | true =>
        have HT2 := Lib.hid (mv_take HX.out hB HT.out)
        have HS := Lib.hid (show (ps.take (k + 1)).map (erM qs) = (ps.take k).map (erM qs) ++ [⟨qa, qb, qc⟩] by have := mv_step (M := erM qs) (fu := []) HX.out; rw [← HQ.out hB] at this; simpa using this)
        clear hB
        have bZ := below_bx2 (below_one w6 (.cells #[.int .i64 qa, .int .i64 qb, .int .i64 qc] 104)) (.cells #[.int .i64 qa, .int .i64 qb, .int .i64 qc] 104)
        have HZ := Lib.hid bZ
        have b5 := below_to b4 bZ
        obtain ⟨v1, v2, v3⟩ := tri_new w6 (.int .i64 qa) (.int .i64 qb) (.int .i64 qc) 104
        have HN1 : ((w6.alloc (.cells #[.int .i64 qa, .int .i64 qb, .int .i64 qc] 104)).alloc (.cells #[.int .i64 qa, .int .i64 qb, .int .i64 qc] 104)).heap[w6.heap.size + 1]? = some (.cells #[.int .i64 qa, .int .i64 qb, .int .i64 qc] 104 (0, 0)) := by
          have := heap_alloc_new (w6.alloc (.cells #[.int .i64 qa, .int .i64 qb, .int .i64 qc] 104)) (.cells #[.int .i64 qa, .int .i64 qb, .int .i64 qc] 104)
          rwa [World.size_alloc] at this
        have H5 := Lib.hid (own_below H4.out bZ)
        clear bZ
        go_wp2_with (at_builtin; refine wpList_append_lies _ rfl _ _ 38 rfl (w.heap.size + 3) 104 i0 (.agg #[.int .i64 0, .int .i64 0, .int .i64 0]) 3 24 Tryz.underlying38 hi hz0 hz1 hz2 rfl (by decide) (.slice ao k cp) k _ rfl H5.out ⟨w6.heap.size + 1, 0, none⟩ 1 1 [.int .i64 qa, .int .i64 qb, .int .i64 qc] rfl rfl (World.news_of_block (cs := #[.int .i64 qa, .int .i64 qb, .int .i64 qc]) (t := 104) (fr := (0, 0)) HN1) (by simp [Value.oneCell']) (by omega) (by unfold maxLen; omega) (by omega) (by simp; omega) _ rfl ?_; intro gg cap' w7 hown7 hgrow hat hlt7; have H7 := Lib.hid hown7; have HG := Lib.hid hgrow; clear hown7 hgrow hat)
        have b7 : Below w.heap.size w w7 := b5.grown HG.out b5.size (fun p hp => Nat.le_trans (Nat.le_add_right _ _) (own_base_le H5.out hp))
        have far : ∀ q, q < w.heap.size + 3 → some q ≠ (Value.slice ao k cp).ownBlock := fun q hq e => by have := own_base_le H5.out e.symm; omega
        have e0 := cell_far (cell_to c0 HZ.out) HG.out (far (w.heap.size + 1) (by omega))
        have e1 := cell_far (cell_to c1 HZ.out) HG.out (far (w.heap.size + 1 + 1) (by omega))
        have e2 : w7.frozen? ⟨w.heap.size + 1 + 1, 0, none⟩ = false := by
          rw [World.frozen?_of_block (HG.out.block _ (block_lt_of_cell (cell_to c1 HZ.out)) (far (w.heap.size + 1 + 1) (by omega))), HZ.out.frozen (block_lt_of_cell c1)]
          exact d1
        have z7 : w.heap.size + 3 ≤ w7.heap.size := by
          have := HG.out.size
          have := HZ.out.size
          omega
        go_roundw
        case rel => exact ⟨k + 1, _, _, by omega, by go_num, rfl, HT2.out, by rw [HS.out, flat_app]; exact H7.out, b7, e0, e1, e2, z7⟩
        case measure => simp [intOf]; omega
    · obtain rfl : k = n := by omega
      have HE2 := Lib.hid (show ps.take k = ps from List.take_of_length_le (by rw [HL.out]; exact Nat.le_refl _))
      rw [HE2.out] at HT H0
      have l1' := block_lt_of_cell r1
      simp only at l1'
      clear HE2
      by_cases h0 : k = 0
      · have HN := Lib.hid (mv_nil (B := erB qs) (M := erM qs) (fu := []) (len_nil HL.out h0))
        rw [HY.out.1.symm, HY.out.2.symm] at HN
        have hb0 : ((k : Int) == 0) = true := by subst h0; rfl
        go_wp2_with fail
        exact bodyPost_ret (v := .tuple #[.agg #[.slice none 0 0], .bool true]) (by simp [results, Tryz.results91, go_sem, r1]) rfl (AnsR.no HN.out.1 HN.out.2 (hbw.setCell (p := ⟨w.heap.size + 1 + 1, 0, none⟩) (Nat.le_add_right _ 2) _))
      · have HN := Lib.hid (mv_yes (B := erB qs) (M := erM qs) (fu := []) (len_ne HL.out h0) HT.out)
        rw [List.nil_append, HY.out.1.symm, HY.out.2.symm] at HN
        have HNN := Lib.hid (show (ps.map (erM qs)).length = k by rw [List.length_map, HL.out])
        have hb0 : ((k : Int) == 0) = false := eq_b (by omega)
        go_wp2_with fail
        refine (spec_fit ao k cp (ps.map (erM qs)) wr HNN.out (by omega) (map_ok (er_ok qs) HT.out) (own_nil H0.out) (own_hs H0.out)).mono ?_
        rintro e w6 ⟨ad, cd, rfl, ho6, bl6⟩
        have b6 := below_to hbw bl6
        have p1 := cell_to r1 bl6
        have g1 : w6.frozen? ⟨w.heap.size + 1 + 1, 0, none⟩ = false := by rw [bl6.frozen l1']; exact s1
        have H6 := Lib.hid ho6
        clear ho6 bl6
        have zb := hbw.size
        generalize regE (ps.map (erM qs)) = LL at *
        generalize LL.length = len at *
        have HF := Lib.hid (AnsR.yes HN.out.1.symm HN.out.2 (own_base (own_far (p := ⟨w.heap.size + 1 + 1, 0, none⟩) H6.out l1' (.slice ad len cd)) zb) (b6.setCell (p := ⟨w.heap.size + 1 + 1, 0, none⟩) (Nat.le_add_right _ 2) (.slice ad len cd)))
        go_wp2_with fail
        exact bodyPost_ret (v := .tuple #[.agg #[.slice ad len cd], .bool (okF (ps.map (erM qs)))]) (by simp [results, Tryz.results91, go_sem, p1]) rfl HF.out
end Go.Proofs.YtibkmhmeoelpdaaGreat
