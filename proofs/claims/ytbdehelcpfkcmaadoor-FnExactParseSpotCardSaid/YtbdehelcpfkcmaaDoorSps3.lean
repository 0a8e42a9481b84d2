/- The walk of the model's ParseSpot at two fractions that make a spot, over the translation. -/
import Derived.Test.YtbdehelcpfkcmaaDoorSps2
namespace Go.Proofs.YtbdehelcpfkcmaaDoor
open Go.RowKit

theorem twos {V X : World} {g h : Nat} {a b c d : Value} (hb : Below V.heap.size V X) (p : Has2 V g a b) (q : Has2 V h c d) :
    X.cell? ⟨g, 0, none⟩ = some a ∧ X.cell? ⟨g, 1, none⟩ = some b ∧ X.cell? ⟨h, 0, none⟩ = some c ∧ X.cell? ⟨h, 1, none⟩ = some d :=
  ⟨(has2_to hb p).1, (has2_to hb p).2, has2_to hb q⟩

set_option maxHeartbeats 4000000 in
theorem ss_good (s x y : ByteArray) (n1 d1 n2 d2 : Int) (w : World)
    (HS : Hid (∀ W, Calls Tryd.prog 36 #[.string s, .string ⟨#[44]⟩] W fun e w' => ∃ g cap, e = .returned (.slice (some ⟨g, 0, none⟩) 2 cap) ∧ (∀ (j : Nat) u, [x, y][j]? = some u → w'.cell? ⟨g, j, none⟩ = some (.string u)) ∧ Below W.heap.size W w'))
    (HP1 : Hid (∀ W, Calls Tryd.prog 37 #[.string x] W fun e w' => e = .returned (.tuple #[.agg #[.int .i64 n1, .int .i64 d1], .bool true]) ∧ Below W.heap.size W w'))
    (HP2 : Hid (∀ W, Calls Tryd.prog 37 #[.string y] W fun e w' => e = .returned (.tuple #[.agg #[.int .i64 n2, .int .i64 d2], .bool true]) ∧ Below W.heap.size W w')) (k1 : d1 ≤ 5000000000) (k2 : d2 ≤ 5000000000) (u1 : 1 ≤ d1) (u2 : 1 ≤ d2)
    (G A B R : Int) (_g0 : (G == 0) = false) (tB : d1.tdiv G = B) (eB : d1 / G = B) (_eR : 5000000000 / d2 = R) (tR : (5000000000 : Int).tdiv d2 = R) (vB : IntKind.i64.wrap B = B) (vR : IntKind.i64.wrap R = R) (_d0 : (d2 == 0) = false) (_hB0 : 0 ≤ B) (_hB1 : B ≤ 5000000000) (_hR0 : 0 ≤ R) (_hR1 : R ≤ 5000000000) (hG0 : 0 < G) (hG1 : G ≤ 5000000000)
    (HG : Hid (∀ W, Calls Tryd.prog 38 #[.int .i64 d1, .int .i64 d2] W fun e w' => e = .returned (.int .i64 G) ∧ ∃ k, w' = W.drewN k)) (hl : ¬ R < B) (L : Int) (eL : B * d2 = L) (hL0 : 1 ≤ L) (hL1 : L ≤ 5000000000) (HA : Hid (inB n1 (-1000 * d1) (1000 * d1) = true)) (HB : Hid (inB n2 (-1000 * d2) (1000 * d2) = true))
    (z : ByteArray) (X Y : Int) (t1 : L.tdiv d1 = A) (t2 : L.tdiv d2 = B) (y1 : L / d1 = A) (y2 : L / d2 = B) (hA0 : 0 ≤ A) (hA1 : A ≤ 5000000000) (eX : n1 * A = X) (eY : n2 * B = Y) (hX0 : -5000000000000 ≤ X) (hX1 : X ≤ 5000000000000) (hY0 : -5000000000000 ≤ Y) (hY1 : Y ≤ 5000000000000)
    (HO : Hid (∀ W, Calls Tryd.prog 40 #[.int .i64 X, .int .i64 Y, .int .i64 L] W fun e w' => e = .returned (.tuple #[.agg #[.int .i64 X, .int .i64 Y, .int .i64 L], .bool true]) ∧ Below W.heap.size W w'))
    (HF : Hid (∀ W, Calls Tryd.prog 15 #[.agg #[.int .i64 X, .int .i64 Y, .int .i64 L]] W fun e w' => e = .returned (.string z) ∧ Below W.heap.size W w')) (hq : (z.toList == s.toList) = true) :
    Calls Tryd.prog 17 #[.string s] w fun e w' => e = .returned (.tuple #[.agg #[.int .i64 X, .int .i64 Y, .int .i64 L], .bool true]) ∧ Below w.heap.size w w' := by
  have H0 := has3_new w (.int .i64 0) (.int .i64 0) (.int .i64 0) 24
  have h0 := below_box w (.cells #[.int .i64 0, .int .i64 0, .int .i64 0] 24)
  go_enter Tryd.func17, Tryd.ntmps17
  go_wp2_with fail
  refine (HS.out _).mono ?_
  rintro e w1 ⟨g, cap, rfl, hcs, bl1⟩
  have c0 := hcs 0 x rfl
  have c1 := hcs 1 y rfl
  have hgl := block_lt_of_cell c0
  simp at hgl
  have h1 := below_to h0 bl1
  have H1 := has3_to bl1 H0
  clear hcs bl1 H0 h0
  go_wp2_with fail
  refine (HP1.out _).mono ?_
  rintro e w2 ⟨rfl, bl2⟩
  have c3 : w2.cell? ⟨g, 1, none⟩ = some (.string y) := by rw [bl2.cell hgl]; exact c1
  have hg2 : g < w2.heap.size := Nat.lt_of_lt_of_le hgl bl2.size
  have h2 := below_bx2 (below_to h1 bl2) (.cells #[.int .i64 n1, .int .i64 d1] 49)
  have H2 := has3_to (below_box _ (.cells #[.int .i64 n1, .int .i64 d1] 49)) (has3_to bl2 H1)
  have Q2 := has2_new w2 (.int .i64 n1) (.int .i64 d1) 49
  clear h1 H1 bl2 c0 c1 hgl
  go_wp2_with fail
  refine (HP2.out _).mono ?_
  rintro e w3 ⟨rfl, bl3⟩
  have h3b := below_to h2 bl3
  have h3 := below_bx2 h3b (.cells #[.int .i64 n2, .int .i64 d2] 49)
  have H3 := has3_to bl3 H2
  have Q3 := has2_to bl3 Q2
  have z3 := has3_lt H3
  clear h2 H2 bl3 Q2 c3 hg2
  have H4 := has3_to (below_box w3 (.cells #[.int .i64 n2, .int .i64 d2] 49)) H3
  have Q4 := has2_to (below_box w3 (.cells #[.int .i64 n2, .int .i64 d2] 49)) Q3
  have R4 := has2_new w3 (.int .i64 n2) (.int .i64 d2) 49
  obtain ⟨p0, p1⟩ := id Q3
  have z4 := has2_lt Q3
  clear H3 h3b
  go_wp2_with fail
  refine (HG.out _).mono ?_
  rintro e w4 ⟨rfl, k, rfl⟩
  have h5 := below_drew h3 k
  have H5 := has3_to (below_drew (Below.refl _ (w3.alloc (.cells #[.int .i64 n2, .int .i64 d2] 49))) k) H4
  have Q5 := has2_to (below_drew (Below.refl _ (w3.alloc (.cells #[.int .i64 n2, .int .i64 d2] 49))) k) Q4
  have R5 := has2_to (below_drew (Below.refl _ (w3.alloc (.cells #[.int .i64 n2, .int .i64 d2] 49))) k) R4
  generalize ((w3.alloc (.cells #[.int .i64 n2, .int .i64 d2] 49)).drewN k) = V at *
  clear H4 Q4 R4 p0 p1 z3 z4 Q3 h3
  obtain ⟨p0, p1⟩ := id Q5
  obtain ⟨q0, q1⟩ := id R5
  obtain ⟨r0, r1, r2, f0, f1, f2⟩ := id H5
  go_wp2_with fail
  go_quiet (fail)
  clear p0 p1 q0 q1 r0 r1 r2 f0 f1 f2
  have h6 := below_drew h5 nq
  have H6 := has3_to (below_drew (Below.refl _ V) nq) H5
  have Q6 := has2_to (below_drew (Below.refl _ V) nq) Q5
  have R6 := has2_to (below_drew (Below.refl _ V) nq) R5
  generalize V.drewN nq = V2 at *
  clear h5 H5 Q5 R5
  obtain ⟨p0, p1⟩ := id Q6
  obtain ⟨q0, q1⟩ := id R6
  obtain ⟨r0, r1, r2, f0, f1, f2⟩ := id H6
  have vL : IntKind.i64.wrap L = L := IntWalk.i64_in _ (by omega)
  go_wp2_with fail
  go_quiet (fail)
  clear p0 p1 q0 q1 r0 r1 r2 f0 f1 f2
  have h7 := below_drew h6 nq
  have H7 := has3_to (below_drew (Below.refl _ V2) nq) H6
  have Q7 := has2_to (below_drew (Below.refl _ V2) nq) Q6
  have R7 := has2_to (below_drew (Below.refl _ V2) nq) R6
  generalize V2.drewN nq = V3 at *
  clear h6 H6 Q6 R6 vL
  obtain ⟨p0, p1⟩ := id Q7
  obtain ⟨q0, q1⟩ := id R7
  obtain ⟨r0, r1, r2, f0, f1, f2⟩ := id H7
  go_wp2_with fail
  refine (in_spec_is _ _ _ _ true HA.out).mono ?_
  rintro e w5 ⟨rfl, rfl⟩
  go_wp2_with fail
  refine (in_spec_is _ _ _ _ true HB.out).mono ?_
  rintro e w5 ⟨rfl, rfl⟩
  clear p0 p1 q0 q1 r0 r1 r2 f0 f1 f2
  go_upto_region 14 with fail
  go_cut [11, 12] from 94 to 112 (fun s5 s6 wx => Lies3 w5 X Y L s5 wx ∧ s6 = .bool true)
  case first =>
    have vA : IntKind.i64.wrap A = A := IntWalk.i64_in _ (by omega)
    have vX : IntKind.i64.wrap X = X := IntWalk.i64_in _ (by omega)
    have vY : IntKind.i64.wrap Y = Y := IntWalk.i64_in _ (by omega)
    have d00 : ¬ d1 = 0 := by omega
    have d01 : ¬ d2 = 0 := by omega
    obtain ⟨p0, p1⟩ := id Q7
    obtain ⟨q0, q1⟩ := id R7
    go_region_held3 (fun w' => w'.cell? ⟨w2.heap.size, 0, none⟩ = some (.int .i64 n1) ∧ w'.cell? ⟨w2.heap.size, 1, none⟩ = some (.int .i64 d1) ∧ w'.cell? ⟨w3.heap.size, 0, none⟩ = some (.int .i64 n2) ∧ w'.cell? ⟨w3.heap.size, 1, none⟩ = some (.int .i64 d2))
      ((refine twos ?_ Q7 R7; repeat (first | exact Below.refl _ _ | refine Below.setCell ?_ (by first | (simp; done) | (simp; omega)) _ | refine below_bx2 ?_ _ | refine below_drw ?_ | refine below_to ?_ (by assumption))))
      (first | (go_at_call 40; refine (HO.out _).mono ?_; rintro e w6 ⟨rfl, bl6⟩; obtain ⟨hc6, hf6⟩ := bcl3 bl6; have hs6 := bl6.size; (try simp at hs6)))
    all_goals
      go_wp2_with fail
      go_meet
      refine ⟨⟨_, rfl, ?_, ?_, ?_⟩, rfl⟩
      · first | exact Nat.le_refl _ | omega | (simp; omega)
      · first
          | exact heap_alloc_new _ _
          | (refine heap_set3 (x := .int .i64 0) (y := .int .i64 0) (z := .int .i64 0) _ _ _ ?_
             apply at_new3 (Z := .cells #[.int .i64 0, .int .i64 0, .int .i64 0] 24)
             · repeat (first | exact Below.refl _ _ | refine below_bx2 ?_ _ | refine below_drw ?_ | refine below_to ?_ (by assumption))
             · first | rfl | (simp; done))
      · repeat (first | exact Below.refl _ _ | refine Below.setCell ?_ (by first | (simp; done) | (simp; omega)) _ | refine below_bx2 ?_ _ | refine below_drw ?_ | refine below_to ?_ (by assumption))
  case rest =>
    obtain ⟨⟨g2, rfl, hg2, hh2, hbx2⟩, rfl⟩ := hcut
    have h8 := below_to h7 hbx2
    have H8 := has3_to hbx2 H7
    have HH := Lib.hid hh2
    have b0 := cell_of_row _ g2 0 _ _ _ hh2
    have b1 := cell_of_row _ g2 1 _ _ _ hh2
    have b2 := cell_of_row _ g2 2 _ _ _ hh2
    simp at b0 b1 b2
    clear h7 H7 Q7 R7 hbx2 hh2 eX eY t1 t2 y1 y2 eL tB eB _eR tR vB vR _g0 _d0
    go_wp2_with fail
    refine (HF.out _).mono ?_
    rintro e w9 ⟨rfl, bl9⟩
    have h9 := below_to h8 bl9
    obtain ⟨r0, r1, r2, f0, f1, f2⟩ := has3_to bl9 H8
    have hh3 := heap_bl bl9 HH.out
    clear b0 b1 b2
    have b0 := cell_of_row _ g2 0 _ _ _ hh3
    have b1 := cell_of_row _ g2 1 _ _ _ hh3
    have b2 := cell_of_row _ g2 2 _ _ _ hh3
    simp at b0 b1 b2
    clear h8 H8 HH hh3 bl9
    go_wp2_with fail
    refine bodyPost_ret (v := .tuple #[.agg #[.int .i64 X, .int .i64 Y, .int .i64 L], .bool true]) (by simp [results, Tryd.results17, go_sem, r0, r1, r2]) rfl ⟨rfl, ?_⟩
    exact below_set3 _ _ _ h9 (by omega)

end Go.Proofs.YtbdehelcpfkcmaaDoor
