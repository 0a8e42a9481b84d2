/- The model's half plane with a fraction, over the translation. -/
import Derived.Test.YtefafkainfhhkaaEt
namespace Go.Proofs.Ytefafkainfhhkaa
open Go.RowKit Go.Shelf
open Geo (H3)

/-- the model's half plane with a fraction as its C -/
def topB (A B N D : Int) : Bool := decide (D ≤ 50000) && hasH (A * D) (B * D) N
def topH (A B N D : Int) : H3 := if D ≤ 50000 then redH (A * D) (B * D) N else ⟨0, 0, 0⟩
theorem top_yes {A B N D : Int} (hD : D ≤ 50000) : topH A B N D = redH (A * D) (B * D) N ∧ topB A B N D = hasH (A * D) (B * D) N := ⟨if_pos hD, by unfold topB; rw [decide_eq_true hD]; simp⟩
theorem top_no {A B N D : Int} (hD : ¬ D ≤ 50000) : topH A B N D = ⟨0, 0, 0⟩ ∧ topB A B N D = false := ⟨if_neg hD, by unfold topB; rw [decide_eq_false hD]; simp⟩
set_option maxRecDepth 100000 in
set_option maxHeartbeats 1600000 in
theorem spec_top1 (A B N D : Int) (w : World) (iA : In5 A) (iB : In5 B) (n1 : -1000000000000000000 ≤ N) (n2 : N ≤ 1000000000000000000) (d1 : 1 ≤ D) (d2 : D ≤ 5000000000) (g : Int.gcd N D = 1) (hD : D ≤ 50000) :
    Calls Try.prog 108 #[.int .i64 A, .int .i64 B, .agg #[.int .i64 N, .int .i64 D]] w fun e w' => e = .returned (.tuple #[.agg #[.int .i64 (topH A B N D).a, .int .i64 (topH A B N D).b, .int .i64 (topH A B N D).c], .bool (topB A B N D)]) ∧ Below w.heap.size w w' := by
  have HK := Lib.hid (fun W => spec_ok N D W (by omega) (by omega) (by omega) (by omega))
  rw [(okR_iff N D).2 ⟨d1, by omega, by omega, by omega, g⟩] at HK
  have m1 := mul_in A D 50000 5000000000 iA.1 iA.2 (by omega) d2
  have m2 := mul_in B D 50000 5000000000 iB.1 iB.2 (by omega) d2
  have HH := Lib.hid (fun W => spec_hof (A * D) (B * D) N W (by omega) (by omega) (by omega) (by omega) (by omega) (by omega))
  rw [ans_red] at HH
  have bV := below_bx2 (below_one w (.cells #[.int .i64 N, .int .i64 D] 27)) (.cells #[.int .i64 0, .int .i64 0, .int .i64 0] 88)
  have B0 := (blk_new w #[.int .i64 N, .int .i64 D] 27 rfl).to (below_one _ (.cells #[.int .i64 0, .int .i64 0, .int .i64 0] 88))
  have T0 := has3_new (w.alloc (.cells #[.int .i64 N, .int .i64 D] 27)) (.int .i64 0) (.int .i64 0) (.int .i64 0) 88
  rw [show (w.alloc (.cells #[.int .i64 N, .int .i64 D] 27)).heap.size = w.heap.size + 1 by simp] at T0
  clear g
  rw [(top_yes hD).1, (top_yes hD).2]
  have x1 : decide (50000 < D) = false := decide_eq_false (by omega)
  generalize redH (A * D) (B * D) N = s at *
  generalize hasH (A * D) (B * D) N = r at *
  obtain ⟨sa, sb, sc⟩ := s
  simp only at HH ⊢
  generalize eu1 : A * D = u1 at *
  generalize eu2 : B * D = u2 at *
  go_enter Try.func108, Try.ntmps108
  go_wp2_with fail
  generalize (w.alloc (.cells #[.int .i64 N, .int .i64 D] 27)).alloc (.cells #[.int .i64 0, .int .i64 0, .int .i64 0] 88) = V at *
  refine (HK.out _).mono ?_
  rintro e w1 ⟨rfl, bl1⟩
  have b1 := below_to bV bl1
  have B1 := B0.to bl1
  have k1 := B1.cell0 (i := 0) rfl
  have k2 := B1.cell0 (i := 1) rfl
  have T1 := has3_to bl1 T0
  obtain ⟨t1, t2, t3, f1, f2, f3⟩ := T1
  clear bl1 B0 T0 HK bV
  go_wp2_with fail
  refine (HH.out _).mono ?_
  rintro e w2 ⟨rfl, bl2⟩
  have b2 := below_to b1 bl2
  obtain ⟨r1, r2, r3, g1, g2, g3⟩ := has3_to bl2 ⟨t1, t2, t3, f1, f2, f3⟩
  clear bl2 HH
  go_wp2_with fail
  exact bodyPost_ret (v := .tuple #[.agg #[.int .i64 sa, .int .i64 sb, .int .i64 sc], .bool r]) (by simp [results, Try.results108, go_sem, r1, r2, r3]) rfl ⟨rfl, ((b2.setCell (p := ⟨w.heap.size + 1, 0, none⟩) (by simp) _).setCell (p := ⟨w.heap.size + 1, 1, none⟩) (by simp) _).setCell (p := ⟨w.heap.size + 1, 2, none⟩) (by simp) _⟩
set_option maxRecDepth 100000 in
set_option maxHeartbeats 1600000 in
theorem spec_top (A B N D : Int) (w : World) (iA : In5 A) (iB : In5 B) (n1 : -1000000000000000000 ≤ N) (n2 : N ≤ 1000000000000000000) (d1 : 1 ≤ D) (d2 : D ≤ 5000000000) (g : Int.gcd N D = 1) :
    Calls Try.prog 108 #[.int .i64 A, .int .i64 B, .agg #[.int .i64 N, .int .i64 D]] w fun e w' => e = .returned (.tuple #[.agg #[.int .i64 (topH A B N D).a, .int .i64 (topH A B N D).b, .int .i64 (topH A B N D).c], .bool (topB A B N D)]) ∧ Below w.heap.size w w' := by
  by_cases hD : D ≤ 50000
  · exact spec_top1 A B N D w iA iB n1 n2 d1 d2 g hD
  have HK := Lib.hid (fun W => spec_ok N D W (by omega) (by omega) (by omega) (by omega))
  rw [(okR_iff N D).2 ⟨d1, by omega, by omega, by omega, g⟩] at HK
  have m1 := mul_in A D 50000 5000000000 iA.1 iA.2 (by omega) d2
  have m2 := mul_in B D 50000 5000000000 iB.1 iB.2 (by omega) d2
  have HH := Lib.hid (fun W => spec_hof (A * D) (B * D) N W (by omega) (by omega) (by omega) (by omega) (by omega) (by omega))
  rw [ans_red] at HH
  have bV := below_bx2 (below_one w (.cells #[.int .i64 N, .int .i64 D] 27)) (.cells #[.int .i64 0, .int .i64 0, .int .i64 0] 88)
  have B0 := (blk_new w #[.int .i64 N, .int .i64 D] 27 rfl).to (below_one _ (.cells #[.int .i64 0, .int .i64 0, .int .i64 0] 88))
  have T0 := has3_new (w.alloc (.cells #[.int .i64 N, .int .i64 D] 27)) (.int .i64 0) (.int .i64 0) (.int .i64 0) 88
  rw [show (w.alloc (.cells #[.int .i64 N, .int .i64 D] 27)).heap.size = w.heap.size + 1 by simp] at T0
  clear g
  rw [(top_no hD).1, (top_no hD).2]
  have x1 : decide (50000 < D) = true := decide_eq_true (by omega)
  go_enter Try.func108, Try.ntmps108
  go_wp2_with fail
  generalize (w.alloc (.cells #[.int .i64 N, .int .i64 D] 27)).alloc (.cells #[.int .i64 0, .int .i64 0, .int .i64 0] 88) = V at *
  refine (HK.out _).mono ?_
  rintro e w1 ⟨rfl, bl1⟩
  have b1 := below_to bV bl1
  have B1 := B0.to bl1
  have k1 := B1.cell0 (i := 0) rfl
  have k2 := B1.cell0 (i := 1) rfl
  have T1 := has3_to bl1 T0
  obtain ⟨t1, t2, t3, f1, f2, f3⟩ := T1
  clear bl1 B0 T0 HK bV
  go_wp2_with fail
  exact bodyPost_ret (v := .tuple #[.agg #[.int .i64 0, .int .i64 0, .int .i64 0], .bool false]) (by simp [results, Try.results108, go_sem, t1, t2, t3]) rfl ⟨rfl, ((b1.setCell (p := ⟨w.heap.size + 1, 0, none⟩) (by simp) _).setCell (p := ⟨w.heap.size + 1, 1, none⟩) (by simp) _).setCell (p := ⟨w.heap.size + 1, 2, none⟩) (by simp) _⟩
/-- the model's answer is the program's -/
theorem top_er {qs : List H3} {h : H3} (hq : rokB qs = true) (ne : qs ≠ []) (k : okB h = true) : topB h.a h.b (h.c * erD qs h + -erN qs h) (erD qs h) = erB qs h ∧ (erB qs h = true → topH h.a h.b (h.c * erD qs h + -erN qs h) (erD qs h) = erM qs h) := by
  obtain ⟨_, _, _, _, _, g, _⟩ := er_in hq ne k
  rw [show h.c * erD qs h + -erN qs h = h.c * erD qs h - erN qs h from rfl]
  by_cases hD : erD qs h ≤ 50000
  · exact ⟨(top_yes hD).2, fun _ => (top_yes hD).1⟩
  · have e : erB qs h = false := er_big g (by omega) (ok_in k).2.2.2.1
    rw [e, (top_no hD).2]
    exact ⟨rfl, by simp⟩
end Go.Proofs.Ytefafkainfhhkaa
