/- The contract of the model's ThroughSpots over the translation, and the walk of the law. -/
import Derived.Test.YtkodoedkdgldnabThr
import Derived.Test.YtkodoedkdgldnabTgl
namespace Go.Proofs.Ytkodoedkdgldnab
open Go.RowKit

theorem thr_other (a b x y : Int) : ansH (y - b) (-(x - a)) ((y - b) * a - (x - a) * b) = ansH (y - b) (a - x) ((y - b) * a + (a - x) * b) := by
  have e1 : -(x - a) = a - x := by omega
  have e2 : (y - b) * a - (x - a) * b = (y - b) * a + (a - x) * b := by rw [← e1, Int.neg_mul]; omega
  rw [e1, e2]

set_option maxHeartbeats 1600000 in
theorem spec_thr (a b c x y d : Int) (w : World) (ha : -9223372036854775808 ≤ a) (ha2 : a ≤ 9223372036854775807) (hb : -9223372036854775808 ≤ b) (hb2 : b ≤ 9223372036854775807) (hc : -9223372036854775808 ≤ c) (hc2 : c ≤ 9223372036854775807) (hx : -9223372036854775808 ≤ x) (hx2 : x ≤ 9223372036854775807) (hy : -9223372036854775808 ≤ y) (hy2 : y ≤ 9223372036854775807) (hd : -9223372036854775808 ≤ d) (hd2 : d ≤ 9223372036854775807) :
    Calls Try.prog 4 #[.agg #[.int .i64 a, .int .i64 b, .int .i64 c], .agg #[.int .i64 x, .int .i64 y, .int .i64 d]] w fun e w' => e = .returned (thrH a b c x y d) ∧ Below w.heap.size w w' := by
  have HO := Lib.hid (fun W => spec_whole a b c W ha ha2 hb hb2 hc hc2)
  have HP := Lib.hid (fun W => spec_whole x y d W hx hx2 hy hy2 hd hd2)
  cases hk : wholeS a b c with
  | false =>
    rw [show thrH a b c x y d = zeroS from if_neg (by rw [hk]; simp)]
    unfold zeroS
    rw [hk] at HO
    clear hk
    go_enter Try.func4, Try.ntmps4
    go_wp2_with fail
    refine (HO.out _).mono ?_
    rintro e w1 ⟨rfl, bl1⟩
    obtain ⟨_, _, ⟨p0, p1, p2, g0, g1, g2⟩, hbw⟩ := sboxes3 bl1
    clear bl1 HO HP
    go_wp2_with fail
    refine bodyPost_ret (v := .tuple #[.agg #[.int .i64 0, .int .i64 0, .int .i64 0], .bool false]) (by simp [results, Try.results4, go_sem, p0, p1, p2]) rfl ⟨rfl, ?_⟩
    exact below_set3 _ _ _ hbw (by omega)
  | true =>
    cases hl : wholeS x y d with
    | false =>
      rw [show thrH a b c x y d = zeroS from if_neg (by rw [hl]; simp)]
      unfold zeroS
      rw [hk] at HO
      rw [hl] at HP
      clear hk hl
      go_enter Try.func4, Try.ntmps4
      go_wp2_with fail
      refine (HO.out _).mono ?_
      rintro e w1 ⟨rfl, bl1⟩
      obtain ⟨_, ⟨r0, r1, r2, _, _, _⟩, _, _⟩ := sboxes3 bl1
      go_wp2_with fail
      refine (HP.out _).mono ?_
      rintro e w2 ⟨rfl, bl2⟩
      obtain ⟨_, _, ⟨p0, p1, p2, g0, g1, g2⟩, hbw⟩ := sboxes3 (below_to bl1 bl2)
      clear bl1 bl2 HO HP r0 r1 r2
      go_wp2_with fail
      refine bodyPost_ret (v := .tuple #[.agg #[.int .i64 0, .int .i64 0, .int .i64 0], .bool false]) (by simp [results, Try.results4, go_sem, p0, p1, p2]) rfl ⟨rfl, ?_⟩
      exact below_set3 _ _ _ hbw (by omega)
    | true =>
      rw [show thrH a b c x y d = ansH (y - b) (-(x - a)) ((y - b) * a - (x - a) * b) from if_pos ⟨hk, hl⟩, thr_other]
      obtain ⟨c1, a1, a2, b1, b2⟩ := whole_in hk
      obtain ⟨d1, x1, x2, y1, y2⟩ := whole_in hl
      have m1 := mul_in (y - b) a 2000 1000 (by omega) (by omega) a1 a2
      have m2 := mul_in (a - x) b 2000 1000 (by omega) (by omega) b1 b2
      rw [hk] at HO
      rw [hl] at HP
      clear hk hl
      subst c1
      subst d1
      by_cases hax : a = x
      · by_cases hby : b = y
        · subst hax
          subst hby
          rw [Int.sub_self, Int.sub_self, Int.zero_mul, Int.zero_mul, Int.add_zero, ansH_no (hasH_no ⟨rfl, rfl⟩)]
          unfold zeroS
          clear HP
          have HP := HO
          clear m1 m2
          go_enter Try.func4, Try.ntmps4
          go_wp2_with fail
          refine (HO.out _).mono ?_
          rintro e w1 ⟨rfl, bl1⟩
          obtain ⟨_, ⟨r0, r1, r2, _, _, _⟩, _, _⟩ := sboxes3 bl1
          go_wp2_with fail
          refine (HP.out _).mono ?_
          rintro e w2 ⟨rfl, bl2⟩
          clear r0 r1 r2
          obtain ⟨⟨q0, q1, q2, _, _, _⟩, ⟨r0, r1, r2, _, _, _⟩, H3, hbw⟩ := sboxes3 (below_to bl1 bl2)
          clear bl1 bl2 HO HP
          obtain ⟨p0, p1, p2, g0, g1, g2⟩ := H3
          go_wp2_with fail
          clear q0 q1 q2 r0 r1 r2
          refine bodyPost_ret (v := .tuple #[.agg #[.int .i64 0, .int .i64 0, .int .i64 0], .bool false]) (by simp [results, Try.results4, go_sem, p0, p1, p2]) rfl ⟨rfl, ?_⟩
          exact below_set3 _ _ _ hbw (by omega)
        · subst hax
          have hz : (b == y) = false := by simpa using hby
          clear hby
          have HS := Lib.hid (fun W => spec_hof (y - b) (a - a) ((y - b) * a + (a - a) * b) W (by omega) (by omega) (by omega) (by omega) (by omega) (by omega))
          obtain ⟨X, Y, D, B, eA⟩ := ansH_ex (y - b) (a - a) ((y - b) * a + (a - a) * b)
          rw [eA] at HS ⊢
          clear eA
          rw [Int.sub_self, Int.zero_mul, Int.add_zero] at HS
          generalize e1 : (y - b) * a = P at *
          clear m2
          go_enter Try.func4, Try.ntmps4
          go_wp2_with fail
          refine (HO.out _).mono ?_
          rintro e w1 ⟨rfl, bl1⟩
          obtain ⟨_, ⟨r0, r1, r2, _, _, _⟩, _, _⟩ := sboxes3 bl1
          go_wp2_with fail
          refine (HP.out _).mono ?_
          rintro e w2 ⟨rfl, bl2⟩
          clear r0 r1 r2
          obtain ⟨⟨q0, q1, q2, _, _, _⟩, ⟨r0, r1, r2, _, _, _⟩, H3, hbw⟩ := sboxes3 (below_to bl1 bl2)
          clear bl1 bl2 HO HP
          go_wp2_with fail
          refine (HS.out _).mono ?_
          rintro e w4 ⟨rfl, bl4⟩
          obtain ⟨p0, p1, p2, g0, g1, g2⟩ := has3_to bl4 H3
          have hfin := below_to hbw bl4
          clear bl4 HS H3 hbw q0 q1 q2 r0 r1 r2
          go_wp2_with fail
          refine bodyPost_ret (v := .tuple #[.agg #[.int .i64 X, .int .i64 Y, .int .i64 D], .bool B]) (by simp [results, Try.results4, go_sem, p0, p1, p2]) rfl ⟨rfl, ?_⟩
          exact below_set3 _ _ _ hfin (by omega)
      · have hz : (a == x) = false := by simpa using hax
        clear hax
        have HS := Lib.hid (fun W => spec_hof (y - b) (a - x) ((y - b) * a + (a - x) * b) W (by omega) (by omega) (by omega) (by omega) (by omega) (by omega))
        obtain ⟨X, Y, D, B, eA⟩ := ansH_ex (y - b) (a - x) ((y - b) * a + (a - x) * b)
        rw [eA] at HS ⊢
        clear eA
        generalize e1 : (y - b) * a = P at *
        generalize e2 : (a - x) * b = Q at *
        go_enter Try.func4, Try.ntmps4
        go_wp2_with fail
        refine (HO.out _).mono ?_
        rintro e w1 ⟨rfl, bl1⟩
        obtain ⟨_, ⟨r0, r1, r2, _, _, _⟩, _, _⟩ := sboxes3 bl1
        go_wp2_with fail
        refine (HP.out _).mono ?_
        rintro e w2 ⟨rfl, bl2⟩
        clear r0 r1 r2
        obtain ⟨⟨q0, q1, q2, _, _, _⟩, ⟨r0, r1, r2, _, _, _⟩, H3, hbw⟩ := sboxes3 (below_to bl1 bl2)
        clear bl1 bl2 HO HP
        go_wp2_with fail
        refine (HS.out _).mono ?_
        rintro e w4 ⟨rfl, bl4⟩
        obtain ⟨p0, p1, p2, g0, g1, g2⟩ := has3_to bl4 H3
        have hfin := below_to hbw bl4
        clear bl4 HS H3 hbw q0 q1 q2 r0 r1 r2
        go_wp2_with fail
        refine bodyPost_ret (v := .tuple #[.agg #[.int .i64 X, .int .i64 Y, .int .i64 D], .bool B]) (by simp [results, Try.results4, go_sem, p0, p1, p2]) rfl ⟨rfl, ?_⟩
        exact below_set3 _ _ _ hfin (by omega)

set_option maxHeartbeats 1600000 in
theorem law_thr (a b c x y d : Int) (wa : (Lit.int .i64 a).wf = true) (wb : (Lit.int .i64 b).wf = true) (wc : (Lit.int .i64 c).wf = true) (wx : (Lit.int .i64 x).wf = true) (wy : (Lit.int .i64 y).wf = true) (wd : (Lit.int .i64 d).wf = true) (w : World) :
    Calls Try.prog 3 #[.agg #[.int .i64 a, .int .i64 b, .int .i64 c], .agg #[.int .i64 x, .int .i64 y, .int .i64 d]] w fun e w' => e = .returned (.bool true) ∧ Below w.heap.size w w' := by
  obtain ⟨ha, ha2⟩ := bounds_i64 wa
  obtain ⟨hb, hb2⟩ := bounds_i64 wb
  obtain ⟨hc, hc2⟩ := bounds_i64 wc
  obtain ⟨hx, hx2⟩ := bounds_i64 wx
  obtain ⟨hy, hy2⟩ := bounds_i64 wy
  obtain ⟨hd, hd2⟩ := bounds_i64 wd
  clear wa wb wc wx wy wd
  have HS := Lib.hid (fun W => spec_thr a b c x y d W ha ha2 hb hb2 hc hc2 hx hx2 hy hy2 hd hd2)
  have HI := Lib.hid (fun W => impl_thr a b c x y d W ha ha2 hb hb2 hc hc2 hx hx2 hy hy2 hd hd2)
  obtain ⟨X, Y, D, B, eA⟩ := thrH_ex a b c x y d
  rw [eA] at HS HI
  clear eA ha ha2 hb hb2 hc hc2 hx hx2 hy hy2 hd hd2
  have hw : Below w.heap.size w ((w.alloc (.cells #[.int .i64 a, .int .i64 b, .int .i64 c] 23)).alloc (.cells #[.int .i64 x, .int .i64 y, .int .i64 d] 23)) := below_bx2 (below_box _ _) _
  have hp := sixb w (.int .i64 a) (.int .i64 b) (.int .i64 c) (.int .i64 x) (.int .i64 y) (.int .i64 d) 23 23
  go_enter Try.func3, Try.ntmps3
  go_upto_region 1 with fail
  generalize (w.alloc (.cells #[.int .i64 a, .int .i64 b, .int .i64 c] 23)).alloc (.cells #[.int .i64 x, .int .i64 y, .int .i64 d] 23) = V at *
  obtain ⟨p, q⟩ := hp
  go_cut [5, 6] from 9 to 16 (fun s5 s6 wx => LiesT 25 V X Y D s5 wx ∧ s6 = .bool B)
  case first =>
    obtain ⟨p0, p1, p2⟩ := id p
    obtain ⟨q0, q1, q2⟩ := id q
    go_region_held3 (fun w' => w'.cell? ⟨w.heap.size, 0, none⟩ = some (.int .i64 a) ∧ w'.cell? ⟨w.heap.size, 1, none⟩ = some (.int .i64 b) ∧ w'.cell? ⟨w.heap.size, 2, none⟩ = some (.int .i64 c) ∧ w'.cell? ⟨w.heap.size + 1, 0, none⟩ = some (.int .i64 x) ∧ w'.cell? ⟨w.heap.size + 1, 1, none⟩ = some (.int .i64 y) ∧ w'.cell? ⟨w.heap.size + 1, 2, none⟩ = some (.int .i64 d))
      ((refine sixc ?_ p q; repeat (first | exact Below.refl _ _ | refine Below.setCell ?_ (by first | (simp; done) | (simp; omega)) _ | refine below_bx2 ?_ _ | refine below_drw ?_ | refine below_to ?_ (by assumption))))
      (first | (go_at_call 5; refine (to_spot_w _ _ _ _).mono ?_; rintro e w2 ⟨rfl, rfl⟩) | (go_at_call 4; refine (HS.out _).mono ?_; rintro e w3 ⟨rfl, bl3⟩; obtain ⟨hc3, hf3⟩ := bcl3 bl3; have hs3 := bl3.size; (try simp at hs3)))
    all_goals
      go_wp2_with fail
      go_meet
      refine ⟨⟨_, rfl, ?_, ?_, ?_⟩, rfl⟩
      · first | exact Nat.le_refl _ | omega | (simp; omega)
      · first
          | exact heap_alloc_new _ _
          | (refine heap_set3 (x := .int .i64 0) (y := .int .i64 0) (z := .int .i64 0) _ _ _ ?_
             apply at_new3 (Z := .cells #[.int .i64 0, .int .i64 0, .int .i64 0] 25)
             · repeat (first | exact Below.refl _ _ | refine below_bx2 ?_ _ | refine below_drw ?_ | refine below_to ?_ (by assumption))
             · first | rfl | (simp; done))
      · repeat (first | exact Below.refl _ _ | refine Below.setCell ?_ (by first | (simp; done) | (simp; omega)) _ | refine below_bx2 ?_ _ | refine below_drw ?_ | refine below_to ?_ (by assumption))
  case rest =>
    obtain ⟨⟨g, rfl, hg, hh, hbx⟩, rfl⟩ := hcut
    have hwc := below_to hw hbx
    have p' := three hbx p
    have q' := three hbx q
    have hz2 : w.heap.size + 1 < wc.heap.size := block_lt_of_cell q'.1
    have HH := Lib.hid hh
    clear hw hbx hh p q
    go_upto_region 2 with fail
    go_cut [7, 8] from 17 to 24 (fun s5 s6 wx => LiesT 25 wc X Y D s5 wx ∧ s6 = .bool B)
    case first =>
      obtain ⟨p0, p1, p2⟩ := id p'
      obtain ⟨q0, q1, q2⟩ := id q'
      go_region_held3 (fun w' => w'.cell? ⟨w.heap.size, 0, none⟩ = some (.int .i64 a) ∧ w'.cell? ⟨w.heap.size, 1, none⟩ = some (.int .i64 b) ∧ w'.cell? ⟨w.heap.size, 2, none⟩ = some (.int .i64 c) ∧ w'.cell? ⟨w.heap.size + 1, 0, none⟩ = some (.int .i64 x) ∧ w'.cell? ⟨w.heap.size + 1, 1, none⟩ = some (.int .i64 y) ∧ w'.cell? ⟨w.heap.size + 1, 2, none⟩ = some (.int .i64 d))
        ((refine sixc ?_ p' q'; repeat (first | exact Below.refl _ _ | refine Below.setCell ?_ (by first | (simp; done) | (simp; omega)) _ | refine below_bx2 ?_ _ | refine below_drw ?_ | refine below_to ?_ (by assumption))))
        (first | (go_at_call 5; refine (to_spot_w _ _ _ _).mono ?_; rintro e w2 ⟨rfl, rfl⟩) | (go_at_call 6; refine (HI.out _).mono ?_; rintro e w3 ⟨rfl, bl3⟩; obtain ⟨hc3, hf3⟩ := bcl3 bl3; have hs3 := bl3.size; (try simp at hs3)))
      all_goals
        go_wp2_with fail
        go_meet
        refine ⟨⟨_, rfl, ?_, ?_, ?_⟩, rfl⟩
        · first | exact Nat.le_refl _ | omega | (simp; omega)
        · first
            | exact heap_alloc_new _ _
            | (refine heap_set3 (x := .int .i64 0) (y := .int .i64 0) (z := .int .i64 0) _ _ _ ?_
               apply at_new3 (Z := .cells #[.int .i64 0, .int .i64 0, .int .i64 0] 25)
               · repeat (first | exact Below.refl _ _ | refine below_bx2 ?_ _ | refine below_drw ?_ | refine below_to ?_ (by assumption))
               · first | rfl | (simp; done))
        · repeat (first | exact Below.refl _ _ | refine Below.setCell ?_ (by first | (simp; done) | (simp; omega)) _ | refine below_bx2 ?_ _ | refine below_drw ?_ | refine below_to ?_ (by assumption))
    case rest =>
      obtain ⟨⟨g2, rfl, hg2, hh2, hbx2⟩, rfl⟩ := hcut
      have hh1 := heap_bl hbx2 HH.out
      have hfin := below_to hwc hbx2
      have a0 := cell_of_row _ g 0 _ _ _ hh1
      have a1 := cell_of_row _ g 1 _ _ _ hh1
      have a2 := cell_of_row _ g 2 _ _ _ hh1
      have b0 := cell_of_row _ g2 0 _ _ _ hh2
      have b1 := cell_of_row _ g2 1 _ _ _ hh2
      have b2 := cell_of_row _ g2 2 _ _ _ hh2
      simp at a0 a1 a2 b0 b1 b2
      clear hh1 hh2 HH HS HI hbx2 p' q'
      go_wp2_with fail
      refine (eq_half X Y D _).mono ?_
      rintro e w9 ⟨rfl, hb9⟩
      go_wp2_with fail
      go_ret
      exact ⟨rfl, below_to hfin hb9⟩

end Go.Proofs.Ytkodoedkdgldnab
