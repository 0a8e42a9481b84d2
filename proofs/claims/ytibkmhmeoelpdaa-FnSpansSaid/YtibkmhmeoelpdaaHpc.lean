/- The contracts of both BeforeAngle and SameDirection functions over the translation, and the walks of their laws. The contracts of both BeforeAngle functions over the translation, and the walk of their law. The contracts of both SameDirection functions over the translation, and the walk of their law. -/
import Derived.Test.YtibkmhmeoelpdaaHm
namespace Go.Proofs.Ytibkmhmeoelpdaa
open Go.RowKit

/-- the direction lies in the first half turn -/
def upB (a b : Int) : Bool := decide (0 < b) || (decide (b = 0) && decide (0 < a))
theorem up_b {a b : Int} (h : 0 < b) : upB a b = true := by unfold upB; simp [h]
theorem up_n {a b : Int} (h : b < 0) : upB a b = false := by unfold upB; simp; omega
theorem up_z {a b : Int} (h : b = 0) : upB a b = decide (0 < a) := by unfold upB; simp [h]
/-- products of the parts of valid directions are small -/
theorem turn_in {a b c x y d : Int} (h : okH a b c = true) (k : okH x y d = true) : (-2500000000 ≤ a * y ∧ a * y ≤ 2500000000) ∧ (-2500000000 ≤ b * x ∧ b * x ≤ 2500000000) ∧ (-2500000000 ≤ a * x ∧ a * x ≤ 2500000000) ∧ (-2500000000 ≤ b * y ∧ b * y ≤ 2500000000) := by
  obtain ⟨a1, a2, b1, b2, _⟩ := (okH_iff _ _ _).1 h
  obtain ⟨x1, x2, y1, y2, _⟩ := (okH_iff _ _ _).1 k
  have m1 := mul_in a y 50000 50000 a1 a2 y1 y2
  have m2 := mul_in b x 50000 50000 b1 b2 x1 x2
  have m3 := mul_in a x 50000 50000 a1 a2 x1 x2
  have m4 := mul_in b y 50000 50000 b1 b2 y1 y2
  exact ⟨by omega, by omega, by omega, by omega⟩

set_option maxHeartbeats 800000 in
theorem spec_up (a b c : Int) (w : World) :
    Calls Try.prog 122 #[.agg #[.int .i64 a, .int .i64 b, .int .i64 c]] w fun e w' => e = .returned (.int .i64 (if upB a b = true then 0 else 1)) ∧ Below w.heap.size w w' := by
  have hk : 0 < b ∨ b < 0 ∨ (b = 0 ∧ 0 < a) ∨ (b = 0 ∧ a ≤ 0) := by omega
  rcases hk with hk | hk | ⟨hk, hl⟩ | ⟨hk, hl⟩
  · rw [up_b hk]
    go_enter Try.func122, Try.ntmps122
    go_wp2_with fail
    go_ret
    exact ⟨by first | rfl | exact ret_bool2 (by simp; omega), below_box _ _⟩
  · rw [up_n hk]
    go_enter Try.func122, Try.ntmps122
    go_wp2_with fail
    go_ret
    exact ⟨by first | rfl | exact ret_bool2 (by simp; omega), below_box _ _⟩
  · rw [up_z hk, decide_eq_true hl]
    subst hk
    go_enter Try.func122, Try.ntmps122
    go_wp2_with fail
    go_ret
    exact ⟨by first | rfl | exact ret_bool2 (by simp; omega), below_box _ _⟩
  · rw [up_z hk, decide_eq_false (by omega)]
    subst hk
    go_enter Try.func122, Try.ntmps122
    go_wp2_with fail
    go_ret
    exact ⟨by first | rfl | exact ret_bool2 (by simp; omega), below_box _ _⟩
set_option maxHeartbeats 800000 in
theorem impl_up (a b c : Int) (w : World) :
    Calls Try.prog 124 #[.agg #[.int .i64 a, .int .i64 b, .int .i64 c]] w fun e w' => e = .returned (.bool (upB a b)) ∧ Below w.heap.size w w' := by
  have hk : 0 < b ∨ b < 0 ∨ (b = 0 ∧ 0 < a) ∨ (b = 0 ∧ a ≤ 0) := by omega
  rcases hk with hk | hk | ⟨hk, hl⟩ | ⟨hk, hl⟩
  · rw [up_b hk]
    go_enter Try.func124, Try.ntmps124
    go_wp2_with fail
    go_ret
    exact ⟨by first | rfl | exact ret_bool2 (by simp; omega), below_box _ _⟩
  · rw [up_n hk]
    go_enter Try.func124, Try.ntmps124
    go_wp2_with fail
    go_ret
    exact ⟨by first | rfl | exact ret_bool2 (by simp; omega), below_box _ _⟩
  · rw [up_z hk, decide_eq_true hl]
    subst hk
    go_enter Try.func124, Try.ntmps124
    go_wp2_with fail
    go_ret
    exact ⟨by first | rfl | exact ret_bool2 (by simp; omega), below_box _ _⟩
  · rw [up_z hk, decide_eq_false (by omega)]
    subst hk
    go_enter Try.func124, Try.ntmps124
    go_wp2_with fail
    go_ret
    exact ⟨by first | rfl | exact ret_bool2 (by simp; omega), below_box _ _⟩
set_option maxHeartbeats 800000 in
theorem impl_turn (a b c x y d : Int) (w : World) (h : okH a b c = true) (k : okH x y d = true) :
    Calls Try.prog 117 #[.agg #[.int .i64 a, .int .i64 b, .int .i64 c], .agg #[.int .i64 x, .int .i64 y, .int .i64 d]] w fun e w' => e = .returned (.int .i64 (a * y - b * x)) ∧ Below w.heap.size w w' := by
  have hw := below_bx2 (below_box w (.cells #[.int .i64 a, .int .i64 b, .int .i64 c] 60)) (.cells #[.int .i64 x, .int .i64 y, .int .i64 d] 60)
  obtain ⟨⟨p0, p1⟩, ⟨q0, q1⟩, _, _⟩ := turn_in h k
  clear h k
  generalize e1 : a * y = P at *
  generalize e2 : b * x = Q at *
  go_enter Try.func117, Try.ntmps117
  go_wp2_with fail
  go_ret
  exact ⟨rfl, hw⟩

/-- the order of directions -/
def befV (a b x y : Int) : Bool := if upB a b = upB x y then decide (0 < a * y - b * x) else upB a b
/-- what BeforeAngle answers -/
def befH (a b c x y d : Int) : Bool := okH a b c && okH x y d && befV a b x y
theorem befV_ne {a b x y : Int} {p q : Bool} (h : upB a b = p) (k : upB x y = q) (n : p ≠ q) : befV a b x y = p := by
  unfold befV; rw [h, k, if_neg n]
theorem befV_eq {a b x y : Int} {p : Bool} (h : upB a b = p) (k : upB x y = p) : befV a b x y = decide (0 < a * y - b * x) := by
  unfold befV; rw [h, k, if_pos rfl]

set_option maxHeartbeats 3200000 in
theorem spec_bef (a b c x y d : Int) (w : World) (ha : -9223372036854775808 ≤ a) (ha2 : a ≤ 9223372036854775807) (hb : -9223372036854775808 ≤ b) (hb2 : b ≤ 9223372036854775807) (hc : -9223372036854775808 ≤ c) (hc2 : c ≤ 9223372036854775807) (hx : -9223372036854775808 ≤ x) (hx2 : x ≤ 9223372036854775807) (hy : -9223372036854775808 ≤ y) (hy2 : y ≤ 9223372036854775807) (hd : -9223372036854775808 ≤ d) (hd2 : d ≤ 9223372036854775807) :
    Calls Try.prog 109 #[.agg #[.int .i64 a, .int .i64 b, .int .i64 c], .agg #[.int .i64 x, .int .i64 y, .int .i64 d]] w fun e w' => e = .returned (.bool (befH a b c x y d)) ∧ Below w.heap.size w w' := by
  have HO := Lib.hid (fun W => spec_hok a b c W ha ha2 hb hb2 hc hc2)
  have HP := Lib.hid (fun W => spec_hok x y d W hx hx2 hy hy2 hd hd2)
  unfold befH
  cases hk : okH a b c with
  | false =>
    rw [hk] at HO
    rw [Bool.false_and, Bool.false_and]
    clear hk
    go_enter Try.func109, Try.ntmps109
    go_wp2_with fail
    refine (HO.out _).mono ?_
    rintro e w1 ⟨rfl, bl1⟩
    obtain ⟨_, _, hbw⟩ := sboxes bl1
    clear bl1
    go_wp2_with fail
    go_ret
    exact ⟨rfl, hbw⟩
  | true =>
    cases hl : okH x y d with
    | false =>
      rw [hk] at HO
      rw [hl] at HP
      rw [Bool.true_and, Bool.false_and]
      clear hk hl
      go_enter Try.func109, Try.ntmps109
      go_wp2_with fail
      refine (HO.out _).mono ?_
      rintro e w1 ⟨rfl, bl1⟩
      obtain ⟨_, ⟨p0, p1, p2, _, _, _⟩, _⟩ := sboxes bl1
      go_wp2_with fail
      refine (HP.out _).mono ?_
      rintro e w2 ⟨rfl, bl2⟩
      obtain ⟨_, _, hbw⟩ := sboxes (below_to bl1 bl2)
      clear bl1 bl2 p0 p1 p2
      go_wp2_with fail
      go_ret
      exact ⟨rfl, hbw⟩
    | true =>
      have HU := Lib.hid (fun W => spec_up a b c W)
      have HV := Lib.hid (fun W => spec_up x y d W)
      obtain ⟨⟨m0, m1⟩, ⟨n0, n1⟩, _, _⟩ := turn_in hk hl
      rw [hk] at HO
      rw [hl] at HP
      rw [Bool.true_and, Bool.true_and]
      clear hk hl
      cases hu : upB a b with
      | false =>
        cases hv : upB x y with
        | false =>
          rw [befV_eq hu hv]
          rw [hu] at HU
          rw [hv] at HV
          clear hu hv
          rw [if_neg (by simp)] at HU
          rw [if_neg (by simp)] at HV
          generalize e1 : a * y = P at *
          generalize e2 : b * x = Q at *
          have e3 : x * b = Q := by rw [Int.mul_comm]; exact e2
          go_enter Try.func109, Try.ntmps109
          go_wp2_with fail
          refine (HO.out _).mono ?_
          rintro e w1 ⟨rfl, bl1⟩
          obtain ⟨_, ⟨p0, p1, p2, _, _, _⟩, _⟩ := sboxes bl1
          go_wp2_with fail
          refine (HP.out _).mono ?_
          rintro e w2 ⟨rfl, bl2⟩
          clear p0 p1 p2
          obtain ⟨⟨q0, q1, q2, _, _, _⟩, ⟨p0, p1, p2, _, _, _⟩, hbw⟩ := sboxes (below_to bl1 bl2)
          clear bl1 bl2
          have hq := And.intro q0 (And.intro q1 q2)
          have hp := And.intro p0 (And.intro p1 p2)
          clear q0 q1 q2 p0 p1 p2
          go_upto_region 3 with fail
          go_cut [17] from 13 to 16 (fun s wx => s = .bool false ∧ Below w2.heap.size w2 wx)
          case first =>
            obtain ⟨q0, q1, q2⟩ := id hq
            obtain ⟨p0, p1, p2⟩ := id hp
            go_region_held3 (fun w' => w'.cell? ⟨w.heap.size, 0, none⟩ = some (.int .i64 a) ∧ w'.cell? ⟨w.heap.size, 1, none⟩ = some (.int .i64 b) ∧ w'.cell? ⟨w.heap.size, 2, none⟩ = some (.int .i64 c) ∧ w'.cell? ⟨w.heap.size + 1, 0, none⟩ = some (.int .i64 x) ∧ w'.cell? ⟨w.heap.size + 1, 1, none⟩ = some (.int .i64 y) ∧ w'.cell? ⟨w.heap.size + 1, 2, none⟩ = some (.int .i64 d))
              ((refine sixc ?_ hq hp; repeat (first | exact Below.refl _ _ | refine below_drw ?_ | refine below_to ?_ (by assumption))))
              ((go_at_call 122; first | (with_reducible refine (HU.out _).mono ?_; rintro e w3 ⟨rfl, bl3⟩) | (with_reducible refine (HV.out _).mono ?_; rintro e w4 ⟨rfl, bl4⟩)))
            all_goals
              go_wp2_with fail
              go_meet
              refine ⟨rfl, ?_⟩
              repeat (first | exact Below.refl _ _ | refine below_drw ?_ | refine below_to ?_ (by assumption))
          case rest =>
            obtain ⟨rfl, hbx⟩ := hcut
            have hq' := three hbx hq
            have hp' := three hbx hp
            have hwc := below_to hbw hbx
            clear hq hp hbw hbx
            obtain ⟨q0, q1, q2⟩ := hq'
            obtain ⟨p0, p1, p2⟩ := hp'
            go_wp2_with fail
            go_ret
            exact ⟨ret_bool2 (by first | rfl | (simp; done) | (simp; omega)), hwc⟩
        | true =>
          rw [befV_ne hu hv (by simp)]
          rw [hu] at HU
          rw [hv] at HV
          clear hu hv
          rw [if_neg (by simp)] at HU
          rw [if_pos rfl] at HV
          generalize e1 : a * y = P at *
          generalize e2 : b * x = Q at *
          have e3 : x * b = Q := by rw [Int.mul_comm]; exact e2
          go_enter Try.func109, Try.ntmps109
          go_wp2_with fail
          refine (HO.out _).mono ?_
          rintro e w1 ⟨rfl, bl1⟩
          obtain ⟨_, ⟨p0, p1, p2, _, _, _⟩, _⟩ := sboxes bl1
          go_wp2_with fail
          refine (HP.out _).mono ?_
          rintro e w2 ⟨rfl, bl2⟩
          clear p0 p1 p2
          obtain ⟨⟨q0, q1, q2, _, _, _⟩, ⟨p0, p1, p2, _, _, _⟩, hbw⟩ := sboxes (below_to bl1 bl2)
          clear bl1 bl2
          have hq := And.intro q0 (And.intro q1 q2)
          have hp := And.intro p0 (And.intro p1 p2)
          clear q0 q1 q2 p0 p1 p2
          go_upto_region 3 with fail
          go_cut [17] from 13 to 16 (fun s wx => s = .bool true ∧ Below w2.heap.size w2 wx)
          case first =>
            obtain ⟨q0, q1, q2⟩ := id hq
            obtain ⟨p0, p1, p2⟩ := id hp
            go_region_held3 (fun w' => w'.cell? ⟨w.heap.size, 0, none⟩ = some (.int .i64 a) ∧ w'.cell? ⟨w.heap.size, 1, none⟩ = some (.int .i64 b) ∧ w'.cell? ⟨w.heap.size, 2, none⟩ = some (.int .i64 c) ∧ w'.cell? ⟨w.heap.size + 1, 0, none⟩ = some (.int .i64 x) ∧ w'.cell? ⟨w.heap.size + 1, 1, none⟩ = some (.int .i64 y) ∧ w'.cell? ⟨w.heap.size + 1, 2, none⟩ = some (.int .i64 d))
              ((refine sixc ?_ hq hp; repeat (first | exact Below.refl _ _ | refine below_drw ?_ | refine below_to ?_ (by assumption))))
              ((go_at_call 122; first | (with_reducible refine (HU.out _).mono ?_; rintro e w3 ⟨rfl, bl3⟩) | (with_reducible refine (HV.out _).mono ?_; rintro e w4 ⟨rfl, bl4⟩)))
            all_goals
              go_wp2_with fail
              go_meet
              refine ⟨rfl, ?_⟩
              repeat (first | exact Below.refl _ _ | refine below_drw ?_ | refine below_to ?_ (by assumption))
          case rest =>
            obtain ⟨rfl, hbx⟩ := hcut
            have hq' := three hbx hq
            have hp' := three hbx hp
            have hwc := below_to hbw hbx
            clear hq hp hbw hbx
            have hq := hq'
            have hp := hp'
            clear hq' hp'
            go_wp2_with fail
            obtain ⟨q0, q1, q2⟩ := id hq
            obtain ⟨p0, p1, p2⟩ := id hp
            go_region_held3 (fun w' => w'.cell? ⟨w.heap.size, 0, none⟩ = some (.int .i64 a) ∧ w'.cell? ⟨w.heap.size, 1, none⟩ = some (.int .i64 b) ∧ w'.cell? ⟨w.heap.size, 2, none⟩ = some (.int .i64 c) ∧ w'.cell? ⟨w.heap.size + 1, 0, none⟩ = some (.int .i64 x) ∧ w'.cell? ⟨w.heap.size + 1, 1, none⟩ = some (.int .i64 y) ∧ w'.cell? ⟨w.heap.size + 1, 2, none⟩ = some (.int .i64 d))
              ((refine sixc ?_ hq hp; repeat (first | exact Below.refl _ _ | refine below_drw ?_ | refine below_to ?_ (by assumption))))
              ((go_at_call 122; first | (with_reducible refine (HU.out _).mono ?_; rintro e w3 ⟨rfl, bl3⟩) | (with_reducible refine (HV.out _).mono ?_; rintro e w4 ⟨rfl, bl4⟩)))
            all_goals
              go_wp2_with fail
              go_ret
              refine ⟨by first | rfl | exact ret_bool2 (by simp), ?_⟩
              refine below_to hwc ?_
              repeat (first | exact Below.refl _ _ | refine below_drw ?_ | refine below_to ?_ (by assumption))
      | true =>
        cases hv : upB x y with
        | false =>
          rw [befV_ne hu hv (by simp)]
          rw [hu] at HU
          rw [hv] at HV
          clear hu hv
          rw [if_pos rfl] at HU
          rw [if_neg (by simp)] at HV
          generalize e1 : a * y = P at *
          generalize e2 : b * x = Q at *
          have e3 : x * b = Q := by rw [Int.mul_comm]; exact e2
          go_enter Try.func109, Try.ntmps109
          go_wp2_with fail
          refine (HO.out _).mono ?_
          rintro e w1 ⟨rfl, bl1⟩
          obtain ⟨_, ⟨p0, p1, p2, _, _, _⟩, _⟩ := sboxes bl1
          go_wp2_with fail
          refine (HP.out _).mono ?_
          rintro e w2 ⟨rfl, bl2⟩
          clear p0 p1 p2
          obtain ⟨⟨q0, q1, q2, _, _, _⟩, ⟨p0, p1, p2, _, _, _⟩, hbw⟩ := sboxes (below_to bl1 bl2)
          clear bl1 bl2
          have hq := And.intro q0 (And.intro q1 q2)
          have hp := And.intro p0 (And.intro p1 p2)
          clear q0 q1 q2 p0 p1 p2
          go_upto_region 3 with fail
          go_cut [17] from 13 to 16 (fun s wx => s = .bool true ∧ Below w2.heap.size w2 wx)
          case first =>
            obtain ⟨q0, q1, q2⟩ := id hq
            obtain ⟨p0, p1, p2⟩ := id hp
            go_region_held3 (fun w' => w'.cell? ⟨w.heap.size, 0, none⟩ = some (.int .i64 a) ∧ w'.cell? ⟨w.heap.size, 1, none⟩ = some (.int .i64 b) ∧ w'.cell? ⟨w.heap.size, 2, none⟩ = some (.int .i64 c) ∧ w'.cell? ⟨w.heap.size + 1, 0, none⟩ = some (.int .i64 x) ∧ w'.cell? ⟨w.heap.size + 1, 1, none⟩ = some (.int .i64 y) ∧ w'.cell? ⟨w.heap.size + 1, 2, none⟩ = some (.int .i64 d))
              ((refine sixc ?_ hq hp; repeat (first | exact Below.refl _ _ | refine below_drw ?_ | refine below_to ?_ (by assumption))))
              ((go_at_call 122; first | (with_reducible refine (HU.out _).mono ?_; rintro e w3 ⟨rfl, bl3⟩) | (with_reducible refine (HV.out _).mono ?_; rintro e w4 ⟨rfl, bl4⟩)))
            all_goals
              go_wp2_with fail
              go_meet
              refine ⟨rfl, ?_⟩
              repeat (first | exact Below.refl _ _ | refine below_drw ?_ | refine below_to ?_ (by assumption))
          case rest =>
            obtain ⟨rfl, hbx⟩ := hcut
            have hq' := three hbx hq
            have hp' := three hbx hp
            have hwc := below_to hbw hbx
            clear hq hp hbw hbx
            have hq := hq'
            have hp := hp'
            clear hq' hp'
            go_wp2_with fail
            obtain ⟨q0, q1, q2⟩ := id hq
            obtain ⟨p0, p1, p2⟩ := id hp
            go_region_held3 (fun w' => w'.cell? ⟨w.heap.size, 0, none⟩ = some (.int .i64 a) ∧ w'.cell? ⟨w.heap.size, 1, none⟩ = some (.int .i64 b) ∧ w'.cell? ⟨w.heap.size, 2, none⟩ = some (.int .i64 c) ∧ w'.cell? ⟨w.heap.size + 1, 0, none⟩ = some (.int .i64 x) ∧ w'.cell? ⟨w.heap.size + 1, 1, none⟩ = some (.int .i64 y) ∧ w'.cell? ⟨w.heap.size + 1, 2, none⟩ = some (.int .i64 d))
              ((refine sixc ?_ hq hp; repeat (first | exact Below.refl _ _ | refine below_drw ?_ | refine below_to ?_ (by assumption))))
              ((go_at_call 122; first | (with_reducible refine (HU.out _).mono ?_; rintro e w3 ⟨rfl, bl3⟩) | (with_reducible refine (HV.out _).mono ?_; rintro e w4 ⟨rfl, bl4⟩)))
            all_goals
              go_wp2_with fail
              go_ret
              refine ⟨by first | rfl | exact ret_bool2 (by simp), ?_⟩
              refine below_to hwc ?_
              repeat (first | exact Below.refl _ _ | refine below_drw ?_ | refine below_to ?_ (by assumption))
        | true =>
          rw [befV_eq hu hv]
          rw [hu] at HU
          rw [hv] at HV
          clear hu hv
          rw [if_pos rfl] at HU
          rw [if_pos rfl] at HV
          generalize e1 : a * y = P at *
          generalize e2 : b * x = Q at *
          have e3 : x * b = Q := by rw [Int.mul_comm]; exact e2
          go_enter Try.func109, Try.ntmps109
          go_wp2_with fail
          refine (HO.out _).mono ?_
          rintro e w1 ⟨rfl, bl1⟩
          obtain ⟨_, ⟨p0, p1, p2, _, _, _⟩, _⟩ := sboxes bl1
          go_wp2_with fail
          refine (HP.out _).mono ?_
          rintro e w2 ⟨rfl, bl2⟩
          clear p0 p1 p2
          obtain ⟨⟨q0, q1, q2, _, _, _⟩, ⟨p0, p1, p2, _, _, _⟩, hbw⟩ := sboxes (below_to bl1 bl2)
          clear bl1 bl2
          have hq := And.intro q0 (And.intro q1 q2)
          have hp := And.intro p0 (And.intro p1 p2)
          clear q0 q1 q2 p0 p1 p2
          go_upto_region 3 with fail
          go_cut [17] from 13 to 16 (fun s wx => s = .bool false ∧ Below w2.heap.size w2 wx)
          case first =>
            obtain ⟨q0, q1, q2⟩ := id hq
            obtain ⟨p0, p1, p2⟩ := id hp
            go_region_held3 (fun w' => w'.cell? ⟨w.heap.size, 0, none⟩ = some (.int .i64 a) ∧ w'.cell? ⟨w.heap.size, 1, none⟩ = some (.int .i64 b) ∧ w'.cell? ⟨w.heap.size, 2, none⟩ = some (.int .i64 c) ∧ w'.cell? ⟨w.heap.size + 1, 0, none⟩ = some (.int .i64 x) ∧ w'.cell? ⟨w.heap.size + 1, 1, none⟩ = some (.int .i64 y) ∧ w'.cell? ⟨w.heap.size + 1, 2, none⟩ = some (.int .i64 d))
              ((refine sixc ?_ hq hp; repeat (first | exact Below.refl _ _ | refine below_drw ?_ | refine below_to ?_ (by assumption))))
              ((go_at_call 122; first | (with_reducible refine (HU.out _).mono ?_; rintro e w3 ⟨rfl, bl3⟩) | (with_reducible refine (HV.out _).mono ?_; rintro e w4 ⟨rfl, bl4⟩)))
            all_goals
              go_wp2_with fail
              go_meet
              refine ⟨rfl, ?_⟩
              repeat (first | exact Below.refl _ _ | refine below_drw ?_ | refine below_to ?_ (by assumption))
          case rest =>
            obtain ⟨rfl, hbx⟩ := hcut
            have hq' := three hbx hq
            have hp' := three hbx hp
            have hwc := below_to hbw hbx
            clear hq hp hbw hbx
            obtain ⟨q0, q1, q2⟩ := hq'
            obtain ⟨p0, p1, p2⟩ := hp'
            go_wp2_with fail
            go_ret
            exact ⟨ret_bool2 (by first | rfl | (simp; done) | (simp; omega)), hwc⟩
set_option maxHeartbeats 3200000 in
theorem impl_bef (a b c x y d : Int) (w : World) (ha : -9223372036854775808 ≤ a) (ha2 : a ≤ 9223372036854775807) (hb : -9223372036854775808 ≤ b) (hb2 : b ≤ 9223372036854775807) (hc : -9223372036854775808 ≤ c) (hc2 : c ≤ 9223372036854775807) (hx : -9223372036854775808 ≤ x) (hx2 : x ≤ 9223372036854775807) (hy : -9223372036854775808 ≤ y) (hy2 : y ≤ 9223372036854775807) (hd : -9223372036854775808 ≤ d) (hd2 : d ≤ 9223372036854775807) :
    Calls Try.prog 121 #[.agg #[.int .i64 a, .int .i64 b, .int .i64 c], .agg #[.int .i64 x, .int .i64 y, .int .i64 d]] w fun e w' => e = .returned (.bool (befH a b c x y d)) ∧ Below w.heap.size w w' := by
  have HO := Lib.hid (fun W => impl_hok a b c W ha ha2 hb hb2 hc hc2)
  have HP := Lib.hid (fun W => impl_hok x y d W hx hx2 hy hy2 hd hd2)
  unfold befH
  cases hk : okH a b c with
  | false =>
    rw [hk] at HO
    rw [Bool.false_and, Bool.false_and]
    clear hk
    go_enter Try.func121, Try.ntmps121
    go_wp2_with fail
    refine (HO.out _).mono ?_
    rintro e w1 ⟨rfl, bl1⟩
    obtain ⟨_, _, hbw⟩ := sboxes bl1
    clear bl1
    go_wp2_with fail
    go_ret
    exact ⟨rfl, hbw⟩
  | true =>
    cases hl : okH x y d with
    | false =>
      rw [hk] at HO
      rw [hl] at HP
      rw [Bool.true_and, Bool.false_and]
      clear hk hl
      go_enter Try.func121, Try.ntmps121
      go_wp2_with fail
      refine (HO.out _).mono ?_
      rintro e w1 ⟨rfl, bl1⟩
      obtain ⟨_, ⟨p0, p1, p2, _, _, _⟩, _⟩ := sboxes bl1
      go_wp2_with fail
      refine (HP.out _).mono ?_
      rintro e w2 ⟨rfl, bl2⟩
      obtain ⟨_, _, hbw⟩ := sboxes (below_to bl1 bl2)
      clear bl1 bl2 p0 p1 p2
      go_wp2_with fail
      go_ret
      exact ⟨rfl, hbw⟩
    | true =>
      have HU := Lib.hid (fun W => impl_up a b c W)
      have HV := Lib.hid (fun W => impl_up x y d W)
      have HT := Lib.hid (fun W => impl_turn a b c x y d W hk hl)
      rw [hk] at HO
      rw [hl] at HP
      rw [Bool.true_and, Bool.true_and]
      clear hk hl
      cases hu : upB a b with
      | false =>
        cases hv : upB x y with
        | false =>
          rw [befV_eq hu hv]
          rw [hu] at HU
          rw [hv] at HV
          clear hu hv
          generalize a * y - b * x = T at *
          go_enter Try.func121, Try.ntmps121
          go_wp2_with fail
          refine (HO.out _).mono ?_
          rintro e w1 ⟨rfl, bl1⟩
          obtain ⟨_, ⟨p0, p1, p2, _, _, _⟩, _⟩ := sboxes bl1
          go_wp2_with fail
          refine (HP.out _).mono ?_
          rintro e w2 ⟨rfl, bl2⟩
          clear p0 p1 p2
          obtain ⟨⟨q0, q1, q2, _, _, _⟩, ⟨p0, p1, p2, _, _, _⟩, hbw⟩ := sboxes (below_to bl1 bl2)
          clear bl1 bl2
          have hq := And.intro q0 (And.intro q1 q2)
          have hp := And.intro p0 (And.intro p1 p2)
          clear q0 q1 q2 p0 p1 p2
          obtain ⟨q0, q1, q2⟩ := id hq
          obtain ⟨p0, p1, p2⟩ := id hp
          go_wp2_with fail
          refine (HU.out _).mono ?_
          rintro e w3 ⟨rfl, bk3⟩
          have hq3 := three bk3 hq
          have hp3 := three bk3 hp
          have hbw3 := below_to hbw bk3
          clear q0 q1 q2 p0 p1 p2 hq hp hbw bk3
          have hq := hq3
          have hp := hp3
          have hbw := hbw3
          clear hq3 hp3 hbw3
          obtain ⟨q0, q1, q2⟩ := id hq
          obtain ⟨p0, p1, p2⟩ := id hp
          go_wp2_with fail
          refine (HV.out _).mono ?_
          rintro e w4 ⟨rfl, bk4⟩
          have hq4 := three bk4 hq
          have hp4 := three bk4 hp
          have hbw4 := below_to hbw bk4
          clear q0 q1 q2 p0 p1 p2 hq hp hbw bk4
          have hq := hq4
          have hp := hp4
          have hbw := hbw4
          clear hq4 hp4 hbw4
          obtain ⟨q0, q1, q2⟩ := id hq
          obtain ⟨p0, p1, p2⟩ := id hp
          go_wp2_with fail
          refine (HT.out _).mono ?_
          rintro e w5 ⟨rfl, bk5⟩
          have hq5 := three bk5 hq
          have hp5 := three bk5 hp
          have hbw5 := below_to hbw bk5
          clear q0 q1 q2 p0 p1 p2 hq hp hbw bk5
          have hq := hq5
          have hp := hp5
          have hbw := hbw5
          clear hq5 hp5 hbw5
          go_wp2_with fail
          go_ret
          exact ⟨ret_bool2 (by first | rfl | (simp; done) | (simp; omega)), hbw⟩
        | true =>
          rw [befV_ne hu hv (by simp)]
          rw [hu] at HU
          rw [hv] at HV
          clear hu hv
          generalize a * y - b * x = T at *
          go_enter Try.func121, Try.ntmps121
          go_wp2_with fail
          refine (HO.out _).mono ?_
          rintro e w1 ⟨rfl, bl1⟩
          obtain ⟨_, ⟨p0, p1, p2, _, _, _⟩, _⟩ := sboxes bl1
          go_wp2_with fail
          refine (HP.out _).mono ?_
          rintro e w2 ⟨rfl, bl2⟩
          clear p0 p1 p2
          obtain ⟨⟨q0, q1, q2, _, _, _⟩, ⟨p0, p1, p2, _, _, _⟩, hbw⟩ := sboxes (below_to bl1 bl2)
          clear bl1 bl2
          have hq := And.intro q0 (And.intro q1 q2)
          have hp := And.intro p0 (And.intro p1 p2)
          clear q0 q1 q2 p0 p1 p2
          obtain ⟨q0, q1, q2⟩ := id hq
          obtain ⟨p0, p1, p2⟩ := id hp
          go_wp2_with fail
          refine (HU.out _).mono ?_
          rintro e w3 ⟨rfl, bk3⟩
          have hq3 := three bk3 hq
          have hp3 := three bk3 hp
          have hbw3 := below_to hbw bk3
          clear q0 q1 q2 p0 p1 p2 hq hp hbw bk3
          have hq := hq3
          have hp := hp3
          have hbw := hbw3
          clear hq3 hp3 hbw3
          obtain ⟨q0, q1, q2⟩ := id hq
          obtain ⟨p0, p1, p2⟩ := id hp
          go_wp2_with fail
          refine (HV.out _).mono ?_
          rintro e w4 ⟨rfl, bk4⟩
          have hq4 := three bk4 hq
          have hp4 := three bk4 hp
          have hbw4 := below_to hbw bk4
          clear q0 q1 q2 p0 p1 p2 hq hp hbw bk4
          have hq := hq4
          have hp := hp4
          have hbw := hbw4
          clear hq4 hp4 hbw4
          go_wp2_with fail
          go_ret
          exact ⟨ret_bool2 (by first | rfl | (simp; done) | (simp; omega)), hbw⟩
      | true =>
        cases hv : upB x y with
        | false =>
          rw [befV_ne hu hv (by simp)]
          rw [hu] at HU
          rw [hv] at HV
          clear hu hv
          generalize a * y - b * x = T at *
          go_enter Try.func121, Try.ntmps121
          go_wp2_with fail
          refine (HO.out _).mono ?_
          rintro e w1 ⟨rfl, bl1⟩
          obtain ⟨_, ⟨p0, p1, p2, _, _, _⟩, _⟩ := sboxes bl1
          go_wp2_with fail
          refine (HP.out _).mono ?_
          rintro e w2 ⟨rfl, bl2⟩
          clear p0 p1 p2
          obtain ⟨⟨q0, q1, q2, _, _, _⟩, ⟨p0, p1, p2, _, _, _⟩, hbw⟩ := sboxes (below_to bl1 bl2)
          clear bl1 bl2
          have hq := And.intro q0 (And.intro q1 q2)
          have hp := And.intro p0 (And.intro p1 p2)
          clear q0 q1 q2 p0 p1 p2
          obtain ⟨q0, q1, q2⟩ := id hq
          obtain ⟨p0, p1, p2⟩ := id hp
          go_wp2_with fail
          refine (HU.out _).mono ?_
          rintro e w3 ⟨rfl, bk3⟩
          have hq3 := three bk3 hq
          have hp3 := three bk3 hp
          have hbw3 := below_to hbw bk3
          clear q0 q1 q2 p0 p1 p2 hq hp hbw bk3
          have hq := hq3
          have hp := hp3
          have hbw := hbw3
          clear hq3 hp3 hbw3
          obtain ⟨q0, q1, q2⟩ := id hq
          obtain ⟨p0, p1, p2⟩ := id hp
          go_wp2_with fail
          refine (HV.out _).mono ?_
          rintro e w4 ⟨rfl, bk4⟩
          have hq4 := three bk4 hq
          have hp4 := three bk4 hp
          have hbw4 := below_to hbw bk4
          clear q0 q1 q2 p0 p1 p2 hq hp hbw bk4
          have hq := hq4
          have hp := hp4
          have hbw := hbw4
          clear hq4 hp4 hbw4
          go_wp2_with fail
          go_ret
          exact ⟨ret_bool2 (by first | rfl | (simp; done) | (simp; omega)), hbw⟩
        | true =>
          rw [befV_eq hu hv]
          rw [hu] at HU
          rw [hv] at HV
          clear hu hv
          generalize a * y - b * x = T at *
          go_enter Try.func121, Try.ntmps121
          go_wp2_with fail
          refine (HO.out _).mono ?_
          rintro e w1 ⟨rfl, bl1⟩
          obtain ⟨_, ⟨p0, p1, p2, _, _, _⟩, _⟩ := sboxes bl1
          go_wp2_with fail
          refine (HP.out _).mono ?_
          rintro e w2 ⟨rfl, bl2⟩
          clear p0 p1 p2
          obtain ⟨⟨q0, q1, q2, _, _, _⟩, ⟨p0, p1, p2, _, _, _⟩, hbw⟩ := sboxes (below_to bl1 bl2)
          clear bl1 bl2
          have hq := And.intro q0 (And.intro q1 q2)
          have hp := And.intro p0 (And.intro p1 p2)
          clear q0 q1 q2 p0 p1 p2
          obtain ⟨q0, q1, q2⟩ := id hq
          obtain ⟨p0, p1, p2⟩ := id hp
          go_wp2_with fail
          refine (HU.out _).mono ?_
          rintro e w3 ⟨rfl, bk3⟩
          have hq3 := three bk3 hq
          have hp3 := three bk3 hp
          have hbw3 := below_to hbw bk3
          clear q0 q1 q2 p0 p1 p2 hq hp hbw bk3
          have hq := hq3
          have hp := hp3
          have hbw := hbw3
          clear hq3 hp3 hbw3
          obtain ⟨q0, q1, q2⟩ := id hq
          obtain ⟨p0, p1, p2⟩ := id hp
          go_wp2_with fail
          refine (HV.out _).mono ?_
          rintro e w4 ⟨rfl, bk4⟩
          have hq4 := three bk4 hq
          have hp4 := three bk4 hp
          have hbw4 := below_to hbw bk4
          clear q0 q1 q2 p0 p1 p2 hq hp hbw bk4
          have hq := hq4
          have hp := hp4
          have hbw := hbw4
          clear hq4 hp4 hbw4
          obtain ⟨q0, q1, q2⟩ := id hq
          obtain ⟨p0, p1, p2⟩ := id hp
          go_wp2_with fail
          refine (HT.out _).mono ?_
          rintro e w5 ⟨rfl, bk5⟩
          have hq5 := three bk5 hq
          have hp5 := three bk5 hp
          have hbw5 := below_to hbw bk5
          clear q0 q1 q2 p0 p1 p2 hq hp hbw bk5
          have hq := hq5
          have hp := hp5
          have hbw := hbw5
          clear hq5 hp5 hbw5
          go_wp2_with fail
          go_ret
          exact ⟨ret_bool2 (by first | rfl | (simp; done) | (simp; omega)), hbw⟩
/-- two directions have the same angle -/
def sdV (a b x y : Int) : Bool := decide (a * y - b * x = 0) && (upB a b == upB x y)
/-- what SameDirection answers -/
def sdH (a b c x y d : Int) : Bool := okH a b c && okH x y d && sdV a b x y
theorem mul_pos_neg {a b : Int} (h : 0 < a * b) : (0 < a ∧ 0 < b) ∨ (a < 0 ∧ b < 0) := by
  rcases Int.lt_trichotomy a 0 with k | k | k
  · rcases Int.lt_trichotomy b 0 with l | l | l
    · exact .inr ⟨k, l⟩
    · subst l; simp at h
    · have := Int.mul_neg_of_neg_of_pos k l; omega
  · subst k; simp at h
  · rcases Int.lt_trichotomy b 0 with l | l | l
    · have := Int.mul_neg_of_pos_of_neg k l; omega
    · subst l; simp at h
    · exact .inl ⟨k, l⟩
theorem sq_pos {a : Int} (h : a ≠ 0) : 0 < a * a := by
  rcases Int.lt_or_gt_of_ne h with k | k
  · exact Int.mul_pos_of_neg_of_neg k k
  · exact Int.mul_pos k k
theorem sq_nn (a : Int) : 0 ≤ a * a := by
  by_cases h : a = 0
  · subst h; simp
  · exact Int.le_of_lt (sq_pos h)
/-- where two directions are parallel, the sign of their product tells whether they point the same way -/
theorem same_dir {a b x y : Int} (h : a ≠ 0 ∨ b ≠ 0) (k : x ≠ 0 ∨ y ≠ 0) : (decide (a * y = x * b) && decide (0 < a * x + b * y)) = sdV a b x y := by
  unfold sdV
  by_cases e : a * y = x * b
  · have e' : a * y - b * x = 0 := by rw [e, Int.mul_comm x b]; omega
    rw [decide_eq_true e, decide_eq_true e', Bool.true_and, Bool.true_and]
    by_cases hb : b = 0
    · subst hb
      have ha : a ≠ 0 := by omega
      have hy : y = 0 := by
        rw [Int.mul_zero] at e
        rcases Int.mul_eq_zero.1 e with q | q
        · exact absurd q ha
        · exact q
      subst hy
      have hx : x ≠ 0 := by omega
      rw [up_z rfl, up_z rfl, Int.zero_mul, Int.add_zero, Bool.eq_iff_iff]
      simp
      constructor
      · intro q
        rcases mul_pos_neg q with q | q <;> omega
      · intro q
        rcases Int.lt_or_gt_of_ne ha with r | r
        · exact Int.mul_pos_of_neg_of_neg r (by omega)
        · exact Int.mul_pos r (by omega)
    · have hy : y ≠ 0 := by
        intro q
        subst q
        rw [Int.mul_zero] at e
        rcases Int.mul_eq_zero.1 e.symm with q | q
        · omega
        · exact hb q
      have key : b * (a * x + b * y) = y * (a * a + b * b) := by
        rw [Int.mul_add, Int.mul_add, ← Int.mul_assoc, ← Int.mul_assoc, ← Int.mul_assoc, ← Int.mul_assoc, Int.mul_comm b a, Int.mul_assoc a b x, Int.mul_comm b x, ← e, ← Int.mul_assoc, Int.mul_comm y a, Int.mul_assoc a y a, Int.mul_comm y a, ← Int.mul_assoc, Int.mul_comm y b, Int.mul_assoc b y b, Int.mul_comm y b, ← Int.mul_assoc]
      have sq : 0 < a * a + b * b := by have := sq_nn a; have := sq_pos hb; omega
      generalize a * a + b * b = S at *
      generalize a * x + b * y = T at *
      rcases Int.lt_or_gt_of_ne hb with r | r <;> rcases Int.lt_or_gt_of_ne hy with s | s
      · rw [up_n r, up_n s]
        have q := Int.mul_neg_of_neg_of_pos s sq
        rw [← key] at q
        have : 0 < T := by
          rcases Int.lt_or_le 0 T with t | t
          · exact t
          · have := Int.mul_nonneg_of_nonpos_of_nonpos (by omega : b ≤ 0) t; omega
        simp [this]
      · rw [up_n r, up_b s]
        have q := Int.mul_pos s sq
        rw [← key] at q
        have : ¬ 0 < T := by
          intro t
          have := Int.mul_neg_of_neg_of_pos r t; omega
        simp; omega
      · rw [up_b r, up_n s]
        have q := Int.mul_neg_of_neg_of_pos s sq
        rw [← key] at q
        have : ¬ 0 < T := by
          intro t
          have := Int.mul_pos r t; omega
        simp; omega
      · rw [up_b r, up_b s]
        have q := Int.mul_pos s sq
        rw [← key] at q
        have : 0 < T := by
          rcases Int.lt_or_le 0 T with t | t
          · exact t
          · have := Int.mul_nonpos_of_nonneg_of_nonpos (by omega : 0 ≤ b) t; omega
        simp [this]
  · have e' : ¬ a * y - b * x = 0 := by rw [Int.mul_comm b x]; omega
    rw [decide_eq_false e, decide_eq_false e', Bool.false_and, Bool.false_and]

set_option maxHeartbeats 3200000 in
theorem spec_sd (a b c x y d : Int) (w : World) (ha : -9223372036854775808 ≤ a) (ha2 : a ≤ 9223372036854775807) (hb : -9223372036854775808 ≤ b) (hb2 : b ≤ 9223372036854775807) (hc : -9223372036854775808 ≤ c) (hc2 : c ≤ 9223372036854775807) (hx : -9223372036854775808 ≤ x) (hx2 : x ≤ 9223372036854775807) (hy : -9223372036854775808 ≤ y) (hy2 : y ≤ 9223372036854775807) (hd : -9223372036854775808 ≤ d) (hd2 : d ≤ 9223372036854775807) :
    Calls Try.prog 110 #[.agg #[.int .i64 a, .int .i64 b, .int .i64 c], .agg #[.int .i64 x, .int .i64 y, .int .i64 d]] w fun e w' => e = .returned (.bool (sdH a b c x y d)) ∧ Below w.heap.size w w' := by
  have HO := Lib.hid (fun W => spec_hok a b c W ha ha2 hb hb2 hc hc2)
  have HP := Lib.hid (fun W => spec_hok x y d W hx hx2 hy hy2 hd hd2)
  unfold sdH
  cases hk : okH a b c with
  | false =>
    rw [hk] at HO
    rw [Bool.false_and, Bool.false_and]
    clear hk
    go_enter Try.func110, Try.ntmps110
    go_wp2_with fail
    refine (HO.out _).mono ?_
    rintro e w1 ⟨rfl, bl1⟩
    obtain ⟨_, _, hbw⟩ := sboxes bl1
    clear bl1
    go_wp2_with fail
    go_ret
    exact ⟨rfl, hbw⟩
  | true =>
    cases hl : okH x y d with
    | false =>
      rw [hk] at HO
      rw [hl] at HP
      rw [Bool.true_and, Bool.false_and]
      clear hk hl
      go_enter Try.func110, Try.ntmps110
      go_wp2_with fail
      refine (HO.out _).mono ?_
      rintro e w1 ⟨rfl, bl1⟩
      obtain ⟨_, ⟨p0, p1, p2, _, _, _⟩, _⟩ := sboxes bl1
      go_wp2_with fail
      refine (HP.out _).mono ?_
      rintro e w2 ⟨rfl, bl2⟩
      obtain ⟨_, _, hbw⟩ := sboxes (below_to bl1 bl2)
      clear bl1 bl2 p0 p1 p2
      go_wp2_with fail
      go_ret
      exact ⟨rfl, hbw⟩
    | true =>
      obtain ⟨⟨m0, m1⟩, ⟨n0, n1⟩, ⟨o0, o1⟩, ⟨t0, t1⟩⟩ := turn_in hk hl
      rw [← same_dir ((okH_iff _ _ _).1 hk).2.2.2.2.1 ((okH_iff _ _ _).1 hl).2.2.2.2.1]
      rw [hk] at HO
      rw [hl] at HP
      rw [Bool.true_and, Bool.true_and]
      clear hk hl
      rw [Int.mul_comm x b]
      generalize e1 : a * y = P at *
      generalize e2 : b * x = Q at *
      generalize e4 : a * x = R at *
      generalize e5 : b * y = S at *
      have e3 : x * b = Q := by rw [Int.mul_comm]; exact e2
      by_cases hPQ : P = Q
      · have hz : (P == Q) = true := by simpa using hPQ
        rw [decide_eq_true hPQ, Bool.true_and]
        clear hPQ
        go_enter Try.func110, Try.ntmps110
        go_wp2_with fail
        refine (HO.out _).mono ?_
        rintro e w1 ⟨rfl, bl1⟩
        obtain ⟨_, ⟨p0, p1, p2, _, _, _⟩, _⟩ := sboxes bl1
        go_wp2_with fail
        refine (HP.out _).mono ?_
        rintro e w2 ⟨rfl, bl2⟩
        clear p0 p1 p2
        obtain ⟨⟨q0, q1, q2, _, _, _⟩, ⟨p0, p1, p2, _, _, _⟩, hbw⟩ := sboxes (below_to bl1 bl2)
        clear bl1 bl2
        have hq := And.intro q0 (And.intro q1 q2)
        have hp := And.intro p0 (And.intro p1 p2)
        clear q0 q1 q2 p0 p1 p2
        obtain ⟨q0, q1, q2⟩ := hq
        obtain ⟨p0, p1, p2⟩ := hp
        go_wp2_with fail
        go_ret
        exact ⟨ret_bool2 (by first | rfl | (simp; done) | (simp; omega)), hbw⟩
      · have hz : (P == Q) = false := by simpa using hPQ
        rw [decide_eq_false hPQ, Bool.false_and]
        clear hPQ
        go_enter Try.func110, Try.ntmps110
        go_wp2_with fail
        refine (HO.out _).mono ?_
        rintro e w1 ⟨rfl, bl1⟩
        obtain ⟨_, ⟨p0, p1, p2, _, _, _⟩, _⟩ := sboxes bl1
        go_wp2_with fail
        refine (HP.out _).mono ?_
        rintro e w2 ⟨rfl, bl2⟩
        clear p0 p1 p2
        obtain ⟨⟨q0, q1, q2, _, _, _⟩, ⟨p0, p1, p2, _, _, _⟩, hbw⟩ := sboxes (below_to bl1 bl2)
        clear bl1 bl2
        have hq := And.intro q0 (And.intro q1 q2)
        have hp := And.intro p0 (And.intro p1 p2)
        clear q0 q1 q2 p0 p1 p2
        obtain ⟨q0, q1, q2⟩ := hq
        obtain ⟨p0, p1, p2⟩ := hp
        go_wp2_with fail
        go_ret
        exact ⟨ret_bool2 (by first | rfl | (simp; done) | (simp; omega)), hbw⟩

end Go.Proofs.Ytibkmhmeoelpdaa
