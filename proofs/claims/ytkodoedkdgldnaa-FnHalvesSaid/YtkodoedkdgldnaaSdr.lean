/- The contracts of both SameDirection functions over the translation, and the walk of their law. -/
import Derived.Test.YtkodoedkdgldnaaBef
namespace Go.Proofs.Ytkodoedkdgldnaa
open Go.RowKit

/-- two directions have the same angle -/
def sdV (a b x y : Int) : Bool := decide (a * y - b * x = 0) && (upB a b == upB x y)
/-- what SameDirection answers -/
def sdH (a b c x y d : Int) : Bool := okH a b c && okH x y d && sdV a b x y
theorem mul_pos_neg {a b : Int} (h : 0 < a * b) : (0 < a ∧ 0 < b) ∨ (a < 0 ∧ b < 0) := by
  rcases Int.lt_trichotomy a 0 with k | k | k
  · rcases Int.lt_trichotomy b 0 with l | l | l
    · exact .inr ⟨k, l⟩
    · subst l; simp at h
    · have := Int.mul_neg_of_neg_of_pos k l; omega
  · subst k; simp at h
  · rcases Int.lt_trichotomy b 0 with l | l | l
    · have := Int.mul_neg_of_pos_of_neg k l; omega
    · subst l; simp at h
    · exact .inl ⟨k, l⟩
theorem sq_pos {a : Int} (h : a ≠ 0) : 0 < a * a := by
  rcases Int.lt_or_gt_of_ne h with k | k
  · exact Int.mul_pos_of_neg_of_neg k k
  · exact Int.mul_pos k k
theorem sq_nn (a : Int) : 0 ≤ a * a := by
  by_cases h : a = 0
  · subst h; simp
  · exact Int.le_of_lt (sq_pos h)
/-- where two directions are parallel, the sign of their product tells whether they point the same way -/
theorem same_dir {a b x y : Int} (h : a ≠ 0 ∨ b ≠ 0) (k : x ≠ 0 ∨ y ≠ 0) : (decide (a * y = x * b) && decide (0 < a * x + b * y)) = sdV a b x y := by
  unfold sdV
  by_cases e : a * y = x * b
  · have e' : a * y - b * x = 0 := by rw [e, Int.mul_comm x b]; omega
    rw [decide_eq_true e, decide_eq_true e', Bool.true_and, Bool.true_and]
    by_cases hb : b = 0
    · subst hb
      have ha : a ≠ 0 := by omega
      have hy : y = 0 := by
        rw [Int.mul_zero] at e
        rcases Int.mul_eq_zero.1 e with q | q
        · exact absurd q ha
        · exact q
      subst hy
      have hx : x ≠ 0 := by omega
      rw [up_z rfl, up_z rfl, Int.zero_mul, Int.add_zero, Bool.eq_iff_iff]
      simp
      constructor
      · intro q
        rcases mul_pos_neg q with q | q <;> omega
      · intro q
        rcases Int.lt_or_gt_of_ne ha with r | r
        · exact Int.mul_pos_of_neg_of_neg r (by omega)
        · exact Int.mul_pos r (by omega)
    · have hy : y ≠ 0 := by
        intro q
        subst q
        rw [Int.mul_zero] at e
        rcases Int.mul_eq_zero.1 e.symm with q | q
        · omega
        · exact hb q
      have key : b * (a * x + b * y) = y * (a * a + b * b) := by
        rw [Int.mul_add, Int.mul_add, ← Int.mul_assoc, ← Int.mul_assoc, ← Int.mul_assoc, ← Int.mul_assoc, Int.mul_comm b a, Int.mul_assoc a b x, Int.mul_comm b x, ← e, ← Int.mul_assoc, Int.mul_comm y a, Int.mul_assoc a y a, Int.mul_comm y a, ← Int.mul_assoc, Int.mul_comm y b, Int.mul_assoc b y b, Int.mul_comm y b, ← Int.mul_assoc]
      have sq : 0 < a * a + b * b := by have := sq_nn a; have := sq_pos hb; omega
      generalize a * a + b * b = S at *
      generalize a * x + b * y = T at *
      rcases Int.lt_or_gt_of_ne hb with r | r <;> rcases Int.lt_or_gt_of_ne hy with s | s
      · rw [up_n r, up_n s]
        have q := Int.mul_neg_of_neg_of_pos s sq
        rw [← key] at q
        have : 0 < T := by
          rcases Int.lt_or_le 0 T with t | t
          · exact t
          · have := Int.mul_nonneg_of_nonpos_of_nonpos (by omega : b ≤ 0) t; omega
        simp [this]
      · rw [up_n r, up_b s]
        have q := Int.mul_pos s sq
        rw [← key] at q
        have : ¬ 0 < T := by
          intro t
          have := Int.mul_neg_of_neg_of_pos r t; omega
        simp; omega
      · rw [up_b r, up_n s]
        have q := Int.mul_neg_of_neg_of_pos s sq
        rw [← key] at q
        have : ¬ 0 < T := by
          intro t
          have := Int.mul_pos r t; omega
        simp; omega
      · rw [up_b r, up_b s]
        have q := Int.mul_pos s sq
        rw [← key] at q
        have : 0 < T := by
          rcases Int.lt_or_le 0 T with t | t
          · exact t
          · have := Int.mul_nonpos_of_nonneg_of_nonpos (by omega : 0 ≤ b) t; omega
        simp [this]
  · have e' : ¬ a * y - b * x = 0 := by rw [Int.mul_comm b x]; omega
    rw [decide_eq_false e, decide_eq_false e', Bool.false_and, Bool.false_and]

set_option maxHeartbeats 3200000 in
theorem spec_sd (a b c x y d : Int) (w : World) (ha : -9223372036854775808 ≤ a) (ha2 : a ≤ 9223372036854775807) (hb : -9223372036854775808 ≤ b) (hb2 : b ≤ 9223372036854775807) (hc : -9223372036854775808 ≤ c) (hc2 : c ≤ 9223372036854775807) (hx : -9223372036854775808 ≤ x) (hx2 : x ≤ 9223372036854775807) (hy : -9223372036854775808 ≤ y) (hy2 : y ≤ 9223372036854775807) (hd : -9223372036854775808 ≤ d) (hd2 : d ≤ 9223372036854775807) :
    Calls Try.prog 41 #[.agg #[.int .i64 a, .int .i64 b, .int .i64 c], .agg #[.int .i64 x, .int .i64 y, .int .i64 d]] w fun e w' => e = .returned (.bool (sdH a b c x y d)) ∧ Below w.heap.size w w' := by
  have HO := Lib.hid (fun W => spec_hok a b c W ha ha2 hb hb2 hc hc2)
  have HP := Lib.hid (fun W => spec_hok x y d W hx hx2 hy hy2 hd hd2)
  unfold sdH
  cases hk : okH a b c with
  | false =>
    rw [hk] at HO
    rw [Bool.false_and, Bool.false_and]
    clear hk
    go_enter Try.func41, Try.ntmps41
    go_wp2_with fail
    refine (HO.out _).mono ?_
    rintro e w1 ⟨rfl, bl1⟩
    obtain ⟨_, _, hbw⟩ := sboxes bl1
    clear bl1
    go_wp2_with fail
    go_ret
    exact ⟨rfl, hbw⟩
  | true =>
    cases hl : okH x y d with
    | false =>
      rw [hk] at HO
      rw [hl] at HP
      rw [Bool.true_and, Bool.false_and]
      clear hk hl
      go_enter Try.func41, Try.ntmps41
      go_wp2_with fail
      refine (HO.out _).mono ?_
      rintro e w1 ⟨rfl, bl1⟩
      obtain ⟨_, ⟨p0, p1, p2, _, _, _⟩, _⟩ := sboxes bl1
      go_wp2_with fail
      refine (HP.out _).mono ?_
      rintro e w2 ⟨rfl, bl2⟩
      obtain ⟨_, _, hbw⟩ := sboxes (below_to bl1 bl2)
      clear bl1 bl2 p0 p1 p2
      go_wp2_with fail
      go_ret
      exact ⟨rfl, hbw⟩
    | true =>
      obtain ⟨⟨m0, m1⟩, ⟨n0, n1⟩, ⟨o0, o1⟩, ⟨t0, t1⟩⟩ := turn_in hk hl
      rw [← same_dir ((okH_iff _ _ _).1 hk).2.2.2.2.1 ((okH_iff _ _ _).1 hl).2.2.2.2.1]
      rw [hk] at HO
      rw [hl] at HP
      rw [Bool.true_and, Bool.true_and]
      clear hk hl
      rw [Int.mul_comm x b]
      generalize e1 : a * y = P at *
      generalize e2 : b * x = Q at *
      generalize e4 : a * x = R at *
      generalize e5 : b * y = S at *
      have e3 : x * b = Q := by rw [Int.mul_comm]; exact e2
      by_cases hPQ : P = Q
      · have hz : (P == Q) = true := by simpa using hPQ
        rw [decide_eq_true hPQ, Bool.true_and]
        clear hPQ
        go_enter Try.func41, Try.ntmps41
        go_wp2_with fail
        refine (HO.out _).mono ?_
        rintro e w1 ⟨rfl, bl1⟩
        obtain ⟨_, ⟨p0, p1, p2, _, _, _⟩, _⟩ := sboxes bl1
        go_wp2_with fail
        refine (HP.out _).mono ?_
        rintro e w2 ⟨rfl, bl2⟩
        clear p0 p1 p2
        obtain ⟨⟨q0, q1, q2, _, _, _⟩, ⟨p0, p1, p2, _, _, _⟩, hbw⟩ := sboxes (below_to bl1 bl2)
        clear bl1 bl2
        have hq := And.intro q0 (And.intro q1 q2)
        have hp := And.intro p0 (And.intro p1 p2)
        clear q0 q1 q2 p0 p1 p2
        obtain ⟨q0, q1, q2⟩ := hq
        obtain ⟨p0, p1, p2⟩ := hp
        go_wp2_with fail
        go_ret
        exact ⟨ret_bool2 (by first | rfl | (simp; done) | (simp; omega)), hbw⟩
      · have hz : (P == Q) = false := by simpa using hPQ
        rw [decide_eq_false hPQ, Bool.false_and]
        clear hPQ
        go_enter Try.func41, Try.ntmps41
        go_wp2_with fail
        refine (HO.out _).mono ?_
        rintro e w1 ⟨rfl, bl1⟩
        obtain ⟨_, ⟨p0, p1, p2, _, _, _⟩, _⟩ := sboxes bl1
        go_wp2_with fail
        refine (HP.out _).mono ?_
        rintro e w2 ⟨rfl, bl2⟩
        clear p0 p1 p2
        obtain ⟨⟨q0, q1, q2, _, _, _⟩, ⟨p0, p1, p2, _, _, _⟩, hbw⟩ := sboxes (below_to bl1 bl2)
        clear bl1 bl2
        have hq := And.intro q0 (And.intro q1 q2)
        have hp := And.intro p0 (And.intro p1 p2)
        clear q0 q1 q2 p0 p1 p2
        obtain ⟨q0, q1, q2⟩ := hq
        obtain ⟨p0, p1, p2⟩ := hp
        go_wp2_with fail
        go_ret
        exact ⟨ret_bool2 (by first | rfl | (simp; done) | (simp; omega)), hbw⟩

set_option maxHeartbeats 3200000 in
theorem impl_sd (a b c x y d : Int) (w : World) (ha : -9223372036854775808 ≤ a) (ha2 : a ≤ 9223372036854775807) (hb : -9223372036854775808 ≤ b) (hb2 : b ≤ 9223372036854775807) (hc : -9223372036854775808 ≤ c) (hc2 : c ≤ 9223372036854775807) (hx : -9223372036854775808 ≤ x) (hx2 : x ≤ 9223372036854775807) (hy : -9223372036854775808 ≤ y) (hy2 : y ≤ 9223372036854775807) (hd : -9223372036854775808 ≤ d) (hd2 : d ≤ 9223372036854775807) :
    Calls Try.prog 27 #[.agg #[.int .i64 a, .int .i64 b, .int .i64 c], .agg #[.int .i64 x, .int .i64 y, .int .i64 d]] w fun e w' => e = .returned (.bool (sdH a b c x y d)) ∧ Below w.heap.size w w' := by
  have HO := Lib.hid (fun W => impl_hok a b c W ha ha2 hb hb2 hc hc2)
  have HP := Lib.hid (fun W => impl_hok x y d W hx hx2 hy hy2 hd hd2)
  unfold sdH
  cases hk : okH a b c with
  | false =>
    rw [hk] at HO
    rw [Bool.false_and, Bool.false_and]
    clear hk
    go_enter Try.func27, Try.ntmps27
    go_wp2_with fail
    refine (HO.out _).mono ?_
    rintro e w1 ⟨rfl, bl1⟩
    obtain ⟨_, _, hbw⟩ := sboxes bl1
    clear bl1
    go_wp2_with fail
    go_ret
    exact ⟨rfl, hbw⟩
  | true =>
    cases hl : okH x y d with
    | false =>
      rw [hk] at HO
      rw [hl] at HP
      rw [Bool.true_and, Bool.false_and]
      clear hk hl
      go_enter Try.func27, Try.ntmps27
      go_wp2_with fail
      refine (HO.out _).mono ?_
      rintro e w1 ⟨rfl, bl1⟩
      obtain ⟨_, ⟨p0, p1, p2, _, _, _⟩, _⟩ := sboxes bl1
      go_wp2_with fail
      refine (HP.out _).mono ?_
      rintro e w2 ⟨rfl, bl2⟩
      obtain ⟨_, _, hbw⟩ := sboxes (below_to bl1 bl2)
      clear bl1 bl2 p0 p1 p2
      go_wp2_with fail
      go_ret
      exact ⟨rfl, hbw⟩
    | true =>
      have HU := Lib.hid (fun W => impl_up a b c W)
      have HV := Lib.hid (fun W => impl_up x y d W)
      have HT := Lib.hid (fun W => impl_turn a b c x y d W hk hl)
      rw [hk] at HO
      rw [hl] at HP
      rw [Bool.true_and, Bool.true_and]
      unfold sdV
      clear hk hl
      generalize upB a b = u at *
      generalize upB x y = v at *
      generalize a * y - b * x = T at *
      by_cases hT : T = 0
      · rw [decide_eq_true hT, Bool.true_and]
        subst hT
        go_enter Try.func27, Try.ntmps27
        go_wp2_with fail
        refine (HO.out _).mono ?_
        rintro e w1 ⟨rfl, bl1⟩
        obtain ⟨_, ⟨p0, p1, p2, _, _, _⟩, _⟩ := sboxes bl1
        go_wp2_with fail
        refine (HP.out _).mono ?_
        rintro e w2 ⟨rfl, bl2⟩
        clear p0 p1 p2
        obtain ⟨⟨q0, q1, q2, _, _, _⟩, ⟨p0, p1, p2, _, _, _⟩, hbw⟩ := sboxes (below_to bl1 bl2)
        clear bl1 bl2
        have hq := And.intro q0 (And.intro q1 q2)
        have hp := And.intro p0 (And.intro p1 p2)
        clear q0 q1 q2 p0 p1 p2
        go_wp2_with fail
        obtain ⟨q0, q1, q2⟩ := id hq
        obtain ⟨p0, p1, p2⟩ := id hp
        go_region_held3 (fun w' => w'.cell? ⟨w.heap.size, 0, none⟩ = some (.int .i64 a) ∧ w'.cell? ⟨w.heap.size, 1, none⟩ = some (.int .i64 b) ∧ w'.cell? ⟨w.heap.size, 2, none⟩ = some (.int .i64 c) ∧ w'.cell? ⟨w.heap.size + 1, 0, none⟩ = some (.int .i64 x) ∧ w'.cell? ⟨w.heap.size + 1, 1, none⟩ = some (.int .i64 y) ∧ w'.cell? ⟨w.heap.size + 1, 2, none⟩ = some (.int .i64 d))
          ((refine sixc ?_ hq hp; repeat (first | exact Below.refl _ _ | refine below_drw ?_ | refine below_to ?_ (by assumption))))
          (first
            | (go_at_call 46; refine (HT.out _).mono ?_; rintro e w2 ⟨rfl, bl2⟩)
            | (go_at_call 54; first | (with_reducible refine (HU.out _).mono ?_; rintro e w3 ⟨rfl, bl3⟩) | (with_reducible refine (HV.out _).mono ?_; rintro e w4 ⟨rfl, bl4⟩)))
        all_goals
          go_wp2_with fail
          go_ret
          refine ⟨ret_bool2 (by first | rfl | (simp; done) | (simp; omega)), ?_⟩
          refine below_to hbw ?_
          repeat (first | exact Below.refl _ _ | refine below_drw ?_ | refine below_to ?_ (by assumption))
      · have hz : (T == 0) = false := by simpa using hT
        rw [decide_eq_false hT, Bool.false_and]
        clear hT
        go_enter Try.func27, Try.ntmps27
        go_wp2_with fail
        refine (HO.out _).mono ?_
        rintro e w1 ⟨rfl, bl1⟩
        obtain ⟨_, ⟨p0, p1, p2, _, _, _⟩, _⟩ := sboxes bl1
        go_wp2_with fail
        refine (HP.out _).mono ?_
        rintro e w2 ⟨rfl, bl2⟩
        clear p0 p1 p2
        obtain ⟨⟨q0, q1, q2, _, _, _⟩, ⟨p0, p1, p2, _, _, _⟩, hbw⟩ := sboxes (below_to bl1 bl2)
        clear bl1 bl2
        have hq := And.intro q0 (And.intro q1 q2)
        have hp := And.intro p0 (And.intro p1 p2)
        clear q0 q1 q2 p0 p1 p2
        go_wp2_with fail
        obtain ⟨q0, q1, q2⟩ := id hq
        obtain ⟨p0, p1, p2⟩ := id hp
        go_region_with ((go_at_call 46; refine (HT.out _).mono ?_; rintro e w5 ⟨rfl, bl5⟩))
        all_goals
          go_wp2_with fail
          go_ret
          refine ⟨ret_bool2 (by first | rfl | (simp; done) | (simp; omega)), ?_⟩
          refine below_to hbw ?_
          repeat (first | exact Below.refl _ _ | refine below_drw ?_ | refine below_to ?_ (by assumption))

set_option maxHeartbeats 1600000 in
theorem law_sd (a b c x y d : Int) (wa : (Lit.int .i64 a).wf = true) (wb : (Lit.int .i64 b).wf = true) (wc : (Lit.int .i64 c).wf = true) (wx : (Lit.int .i64 x).wf = true) (wy : (Lit.int .i64 y).wf = true) (wd : (Lit.int .i64 d).wf = true) (w : World) :
    Calls Try.prog 13 #[.agg #[.int .i64 a, .int .i64 b, .int .i64 c], .agg #[.int .i64 x, .int .i64 y, .int .i64 d]] w fun e w' => e = .returned (.bool true) ∧ Below w.heap.size w w' := by
  obtain ⟨ha, ha2⟩ := bounds_i64 wa
  obtain ⟨hb, hb2⟩ := bounds_i64 wb
  obtain ⟨hc, hc2⟩ := bounds_i64 wc
  obtain ⟨hx, hx2⟩ := bounds_i64 wx
  obtain ⟨hy, hy2⟩ := bounds_i64 wy
  obtain ⟨hd, hd2⟩ := bounds_i64 wd
  clear wa wb wc wx wy wd
  have HS := Lib.hid (fun W => spec_sd a b c x y d W ha ha2 hb hb2 hc hc2 hx hx2 hy hy2 hd hd2)
  have HI := Lib.hid (fun W => impl_sd a b c x y d W ha ha2 hb hb2 hc hc2 hx hx2 hy hy2 hd hd2)
  generalize sdH a b c x y d = r at *
  clear ha ha2 hb hb2 hc hc2 hx hx2 hy hy2 hd hd2
  have hw : Below w.heap.size w ((w.alloc (.cells #[.int .i64 a, .int .i64 b, .int .i64 c] 43)).alloc (.cells #[.int .i64 x, .int .i64 y, .int .i64 d] 43)) := below_bx2 (below_box _ _) _
  have hp := sixb w (.int .i64 a) (.int .i64 b) (.int .i64 c) (.int .i64 x) (.int .i64 y) (.int .i64 d) 43 43
  go_enter Try.func13, Try.ntmps13
  go_upto_region 1 with fail
  generalize (w.alloc (.cells #[.int .i64 a, .int .i64 b, .int .i64 c] 43)).alloc (.cells #[.int .i64 x, .int .i64 y, .int .i64 d] 43) = V at *
  obtain ⟨p, q⟩ := hp
  go_cut [5] from 7 to 11 (fun s5 wx => s5 = .bool r ∧ Below V.heap.size V wx)
  case first =>
    obtain ⟨p0, p1, p2⟩ := id p
    obtain ⟨q0, q1, q2⟩ := id q
    go_region_held3 (fun w' => w'.cell? ⟨w.heap.size, 0, none⟩ = some (.int .i64 a) ∧ w'.cell? ⟨w.heap.size, 1, none⟩ = some (.int .i64 b) ∧ w'.cell? ⟨w.heap.size, 2, none⟩ = some (.int .i64 c) ∧ w'.cell? ⟨w.heap.size + 1, 0, none⟩ = some (.int .i64 x) ∧ w'.cell? ⟨w.heap.size + 1, 1, none⟩ = some (.int .i64 y) ∧ w'.cell? ⟨w.heap.size + 1, 2, none⟩ = some (.int .i64 d))
      ((refine sixc ?_ p q; repeat (first | exact Below.refl _ _ | refine below_drw ?_ | refine below_to ?_ (by assumption))))
      (first | (go_at_call 31; refine (to_half _ _ _ _).mono ?_; rintro e w2 ⟨rfl, bl2⟩) | (go_at_call 41; refine (HS.out _).mono ?_; rintro e w3 ⟨rfl, bl3⟩))
    all_goals
      go_wp2_with fail
      go_meet
      refine ⟨rfl, ?_⟩
      repeat (first | exact Below.refl _ _ | refine below_drw ?_ | refine below_to ?_ (by assumption))
  case rest =>
    obtain ⟨rfl, hbx⟩ := hcut
    have p' := three hbx p
    have q' := three hbx q
    have hwc := below_to hw hbx
    clear p q hw hbx
    go_upto_region 2 with fail
    go_cut [6] from 12 to 16 (fun s5 wx => s5 = .bool r ∧ Below wc.heap.size wc wx)
    case first =>
      obtain ⟨p0, p1, p2⟩ := id p'
      obtain ⟨q0, q1, q2⟩ := id q'
      go_region_held3 (fun w' => w'.cell? ⟨w.heap.size, 0, none⟩ = some (.int .i64 a) ∧ w'.cell? ⟨w.heap.size, 1, none⟩ = some (.int .i64 b) ∧ w'.cell? ⟨w.heap.size, 2, none⟩ = some (.int .i64 c) ∧ w'.cell? ⟨w.heap.size + 1, 0, none⟩ = some (.int .i64 x) ∧ w'.cell? ⟨w.heap.size + 1, 1, none⟩ = some (.int .i64 y) ∧ w'.cell? ⟨w.heap.size + 1, 2, none⟩ = some (.int .i64 d))
        ((refine sixc ?_ p' q'; repeat (first | exact Below.refl _ _ | refine below_drw ?_ | refine below_to ?_ (by assumption))))
        (first | (go_at_call 31; refine (to_half _ _ _ _).mono ?_; rintro e w2 ⟨rfl, bl2⟩) | (go_at_call 27; refine (HI.out _).mono ?_; rintro e w3 ⟨rfl, bl3⟩))
      all_goals
        go_wp2_with fail
        go_meet
        refine ⟨rfl, ?_⟩
        repeat (first | exact Below.refl _ _ | refine below_drw ?_ | refine below_to ?_ (by assumption))
    case rest =>
      obtain ⟨rfl, hbx2⟩ := hcut
      have hfin := below_to hwc hbx2
      go_wp2_with fail
      go_ret
      exact ⟨rfl, hfin⟩

end Go.Proofs.Ytkodoedkdgldnaa
