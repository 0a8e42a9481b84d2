/- The contracts of both BeforeAngle functions over the translation, and the walk of their law. -/
import Derived.Test.YtkodoedkdgldnaaAng
namespace Go.Proofs.Ytkodoedkdgldnaa
open Go.RowKit

/-- the order of directions -/
def befV (a b x y : Int) : Bool := if upB a b = upB x y then decide (0 < a * y - b * x) else upB a b
/-- what BeforeAngle answers -/
def befH (a b c x y d : Int) : Bool := okH a b c && okH x y d && befV a b x y
theorem befV_ne {a b x y : Int} {p q : Bool} (h : upB a b = p) (k : upB x y = q) (n : p ≠ q) : befV a b x y = p := by
  unfold befV; rw [h, k, if_neg n]
theorem befV_eq {a b x y : Int} {p : Bool} (h : upB a b = p) (k : upB x y = p) : befV a b x y = decide (0 < a * y - b * x) := by
  unfold befV; rw [h, k, if_pos rfl]

set_option maxHeartbeats 3200000 in
theorem spec_bef (a b c x y d : Int) (w : World) (ha : -9223372036854775808 ≤ a) (ha2 : a ≤ 9223372036854775807) (hb : -9223372036854775808 ≤ b) (hb2 : b ≤ 9223372036854775807) (hc : -9223372036854775808 ≤ c) (hc2 : c ≤ 9223372036854775807) (hx : -9223372036854775808 ≤ x) (hx2 : x ≤ 9223372036854775807) (hy : -9223372036854775808 ≤ y) (hy2 : y ≤ 9223372036854775807) (hd : -9223372036854775808 ≤ d) (hd2 : d ≤ 9223372036854775807) :
    Calls Try.prog 40 #[.agg #[.int .i64 a, .int .i64 b, .int .i64 c], .agg #[.int .i64 x, .int .i64 y, .int .i64 d]] w fun e w' => e = .returned (.bool (befH a b c x y d)) ∧ Below w.heap.size w w' := by
  have HO := Lib.hid (fun W => spec_hok a b c W ha ha2 hb hb2 hc hc2)
  have HP := Lib.hid (fun W => spec_hok x y d W hx hx2 hy hy2 hd hd2)
  unfold befH
  cases hk : okH a b c with
  | false =>
    rw [hk] at HO
    rw [Bool.false_and, Bool.false_and]
    clear hk
    go_enter Try.func40, Try.ntmps40
    go_wp2_with fail
    refine (HO.out _).mono ?_
    rintro e w1 ⟨rfl, bl1⟩
    obtain ⟨_, _, hbw⟩ := sboxes bl1
    clear bl1
    go_wp2_with fail
    go_ret
    exact ⟨rfl, hbw⟩
  | true =>
    cases hl : okH x y d with
    | false =>
      rw [hk] at HO
      rw [hl] at HP
      rw [Bool.true_and, Bool.false_and]
      clear hk hl
      go_enter Try.func40, Try.ntmps40
      go_wp2_with fail
      refine (HO.out _).mono ?_
      rintro e w1 ⟨rfl, bl1⟩
      obtain ⟨_, ⟨p0, p1, p2, _, _, _⟩, _⟩ := sboxes bl1
      go_wp2_with fail
      refine (HP.out _).mono ?_
      rintro e w2 ⟨rfl, bl2⟩
      obtain ⟨_, _, hbw⟩ := sboxes (below_to bl1 bl2)
      clear bl1 bl2 p0 p1 p2
      go_wp2_with fail
      go_ret
      exact ⟨rfl, hbw⟩
    | true =>
      have HU := Lib.hid (fun W => spec_up a b c W)
      have HV := Lib.hid (fun W => spec_up x y d W)
      obtain ⟨⟨m0, m1⟩, ⟨n0, n1⟩, _, _⟩ := turn_in hk hl
      rw [hk] at HO
      rw [hl] at HP
      rw [Bool.true_and, Bool.true_and]
      clear hk hl
      cases hu : upB a b with
      | false =>
        cases hv : upB x y with
        | false =>
          rw [befV_eq hu hv]
          rw [hu] at HU
          rw [hv] at HV
          clear hu hv
          rw [if_neg (by simp)] at HU
          rw [if_neg (by simp)] at HV
          generalize e1 : a * y = P at *
          generalize e2 : b * x = Q at *
          have e3 : x * b = Q := by rw [Int.mul_comm]; exact e2
          go_enter Try.func40, Try.ntmps40
          go_wp2_with fail
          refine (HO.out _).mono ?_
          rintro e w1 ⟨rfl, bl1⟩
          obtain ⟨_, ⟨p0, p1, p2, _, _, _⟩, _⟩ := sboxes bl1
          go_wp2_with fail
          refine (HP.out _).mono ?_
          rintro e w2 ⟨rfl, bl2⟩
          clear p0 p1 p2
          obtain ⟨⟨q0, q1, q2, _, _, _⟩, ⟨p0, p1, p2, _, _, _⟩, hbw⟩ := sboxes (below_to bl1 bl2)
          clear bl1 bl2
          have hq := And.intro q0 (And.intro q1 q2)
          have hp := And.intro p0 (And.intro p1 p2)
          clear q0 q1 q2 p0 p1 p2
          go_upto_region 3 with fail
          go_cut [17] from 13 to 16 (fun s wx => s = .bool false ∧ Below w2.heap.size w2 wx)
          case first =>
            obtain ⟨q0, q1, q2⟩ := id hq
            obtain ⟨p0, p1, p2⟩ := id hp
            go_region_held3 (fun w' => w'.cell? ⟨w.heap.size, 0, none⟩ = some (.int .i64 a) ∧ w'.cell? ⟨w.heap.size, 1, none⟩ = some (.int .i64 b) ∧ w'.cell? ⟨w.heap.size, 2, none⟩ = some (.int .i64 c) ∧ w'.cell? ⟨w.heap.size + 1, 0, none⟩ = some (.int .i64 x) ∧ w'.cell? ⟨w.heap.size + 1, 1, none⟩ = some (.int .i64 y) ∧ w'.cell? ⟨w.heap.size + 1, 2, none⟩ = some (.int .i64 d))
              ((refine sixc ?_ hq hp; repeat (first | exact Below.refl _ _ | refine below_drw ?_ | refine below_to ?_ (by assumption))))
              ((go_at_call 64; first | (with_reducible refine (HU.out _).mono ?_; rintro e w3 ⟨rfl, bl3⟩) | (with_reducible refine (HV.out _).mono ?_; rintro e w4 ⟨rfl, bl4⟩)))
            all_goals
              go_wp2_with fail
              go_meet
              refine ⟨rfl, ?_⟩
              repeat (first | exact Below.refl _ _ | refine below_drw ?_ | refine below_to ?_ (by assumption))
          case rest =>
            obtain ⟨rfl, hbx⟩ := hcut
            have hq' := three hbx hq
            have hp' := three hbx hp
            have hwc := below_to hbw hbx
            clear hq hp hbw hbx
            obtain ⟨q0, q1, q2⟩ := hq'
            obtain ⟨p0, p1, p2⟩ := hp'
            go_wp2_with fail
            go_ret
            exact ⟨ret_bool2 (by first | rfl | (simp; done) | (simp; omega)), hwc⟩
        | true =>
          rw [befV_ne hu hv (by simp)]
          rw [hu] at HU
          rw [hv] at HV
          clear hu hv
          rw [if_neg (by simp)] at HU
          rw [if_pos rfl] at HV
          generalize e1 : a * y = P at *
          generalize e2 : b * x = Q at *
          have e3 : x * b = Q := by rw [Int.mul_comm]; exact e2
          go_enter Try.func40, Try.ntmps40
          go_wp2_with fail
          refine (HO.out _).mono ?_
          rintro e w1 ⟨rfl, bl1⟩
          obtain ⟨_, ⟨p0, p1, p2, _, _, _⟩, _⟩ := sboxes bl1
          go_wp2_with fail
          refine (HP.out _).mono ?_
          rintro e w2 ⟨rfl, bl2⟩
          clear p0 p1 p2
          obtain ⟨⟨q0, q1, q2, _, _, _⟩, ⟨p0, p1, p2, _, _, _⟩, hbw⟩ := sboxes (below_to bl1 bl2)
          clear bl1 bl2
          have hq := And.intro q0 (And.intro q1 q2)
          have hp := And.intro p0 (And.intro p1 p2)
          clear q0 q1 q2 p0 p1 p2
          go_upto_region 3 with fail
          go_cut [17] from 13 to 16 (fun s wx => s = .bool true ∧ Below w2.heap.size w2 wx)
          case first =>
            obtain ⟨q0, q1, q2⟩ := id hq
            obtain ⟨p0, p1, p2⟩ := id hp
            go_region_held3 (fun w' => w'.cell? ⟨w.heap.size, 0, none⟩ = some (.int .i64 a) ∧ w'.cell? ⟨w.heap.size, 1, none⟩ = some (.int .i64 b) ∧ w'.cell? ⟨w.heap.size, 2, none⟩ = some (.int .i64 c) ∧ w'.cell? ⟨w.heap.size + 1, 0, none⟩ = some (.int .i64 x) ∧ w'.cell? ⟨w.heap.size + 1, 1, none⟩ = some (.int .i64 y) ∧ w'.cell? ⟨w.heap.size + 1, 2, none⟩ = some (.int .i64 d))
              ((refine sixc ?_ hq hp; repeat (first | exact Below.refl _ _ | refine below_drw ?_ | refine below_to ?_ (by assumption))))
              ((go_at_call 64; first | (with_reducible refine (HU.out _).mono ?_; rintro e w3 ⟨rfl, bl3⟩) | (with_reducible refine (HV.out _).mono ?_; rintro e w4 ⟨rfl, bl4⟩)))
            all_goals
              go_wp2_with fail
              go_meet
              refine ⟨rfl, ?_⟩
              repeat (first | exact Below.refl _ _ | refine below_drw ?_ | refine below_to ?_ (by assumption))
          case rest =>
            obtain ⟨rfl, hbx⟩ := hcut
            have hq' := three hbx hq
            have hp' := three hbx hp
            have hwc := below_to hbw hbx
            clear hq hp hbw hbx
            have hq := hq'
            have hp := hp'
            clear hq' hp'
            go_wp2_with fail
            obtain ⟨q0, q1, q2⟩ := id hq
            obtain ⟨p0, p1, p2⟩ := id hp
            go_region_held3 (fun w' => w'.cell? ⟨w.heap.size, 0, none⟩ = some (.int .i64 a) ∧ w'.cell? ⟨w.heap.size, 1, none⟩ = some (.int .i64 b) ∧ w'.cell? ⟨w.heap.size, 2, none⟩ = some (.int .i64 c) ∧ w'.cell? ⟨w.heap.size + 1, 0, none⟩ = some (.int .i64 x) ∧ w'.cell? ⟨w.heap.size + 1, 1, none⟩ = some (.int .i64 y) ∧ w'.cell? ⟨w.heap.size + 1, 2, none⟩ = some (.int .i64 d))
              ((refine sixc ?_ hq hp; repeat (first | exact Below.refl _ _ | refine below_drw ?_ | refine below_to ?_ (by assumption))))
              ((go_at_call 64; first | (with_reducible refine (HU.out _).mono ?_; rintro e w3 ⟨rfl, bl3⟩) | (with_reducible refine (HV.out _).mono ?_; rintro e w4 ⟨rfl, bl4⟩)))
            all_goals
              go_wp2_with fail
              go_ret
              refine ⟨by first | rfl | exact ret_bool2 (by simp), ?_⟩
              refine below_to hwc ?_
              repeat (first | exact Below.refl _ _ | refine below_drw ?_ | refine below_to ?_ (by assumption))
      | true =>
        cases hv : upB x y with
        | false =>
          rw [befV_ne hu hv (by simp)]
          rw [hu] at HU
          rw [hv] at HV
          clear hu hv
          rw [if_pos rfl] at HU
          rw [if_neg (by simp)] at HV
          generalize e1 : a * y = P at *
          generalize e2 : b * x = Q at *
          have e3 : x * b = Q := by rw [Int.mul_comm]; exact e2
          go_enter Try.func40, Try.ntmps40
          go_wp2_with fail
          refine (HO.out _).mono ?_
          rintro e w1 ⟨rfl, bl1⟩
          obtain ⟨_, ⟨p0, p1, p2, _, _, _⟩, _⟩ := sboxes bl1
          go_wp2_with fail
          refine (HP.out _).mono ?_
          rintro e w2 ⟨rfl, bl2⟩
          clear p0 p1 p2
          obtain ⟨⟨q0, q1, q2, _, _, _⟩, ⟨p0, p1, p2, _, _, _⟩, hbw⟩ := sboxes (below_to bl1 bl2)
          clear bl1 bl2
          have hq := And.intro q0 (And.intro q1 q2)
          have hp := And.intro p0 (And.intro p1 p2)
          clear q0 q1 q2 p0 p1 p2
          go_upto_region 3 with fail
          go_cut [17] from 13 to 16 (fun s wx => s = .bool true ∧ Below w2.heap.size w2 wx)
          case first =>
            obtain ⟨q0, q1, q2⟩ := id hq
            obtain ⟨p0, p1, p2⟩ := id hp
            go_region_held3 (fun w' => w'.cell? ⟨w.heap.size, 0, none⟩ = some (.int .i64 a) ∧ w'.cell? ⟨w.heap.size, 1, none⟩ = some (.int .i64 b) ∧ w'.cell? ⟨w.heap.size, 2, none⟩ = some (.int .i64 c) ∧ w'.cell? ⟨w.heap.size + 1, 0, none⟩ = some (.int .i64 x) ∧ w'.cell? ⟨w.heap.size + 1, 1, none⟩ = some (.int .i64 y) ∧ w'.cell? ⟨w.heap.size + 1, 2, none⟩ = some (.int .i64 d))
              ((refine sixc ?_ hq hp; repeat (first | exact Below.refl _ _ | refine below_drw ?_ | refine below_to ?_ (by assumption))))
              ((go_at_call 64; first | (with_reducible refine (HU.out _).mono ?_; rintro e w3 ⟨rfl, bl3⟩) | (with_reducible refine (HV.out _).mono ?_; rintro e w4 ⟨rfl, bl4⟩)))
            all_goals
              go_wp2_with fail
              go_meet
              refine ⟨rfl, ?_⟩
              repeat (first | exact Below.refl _ _ | refine below_drw ?_ | refine below_to ?_ (by assumption))
          case rest =>
            obtain ⟨rfl, hbx⟩ := hcut
            have hq' := three hbx hq
            have hp' := three hbx hp
            have hwc := below_to hbw hbx
            clear hq hp hbw hbx
            have hq := hq'
            have hp := hp'
            clear hq' hp'
            go_wp2_with fail
            obtain ⟨q0, q1, q2⟩ := id hq
            obtain ⟨p0, p1, p2⟩ := id hp
            go_region_held3 (fun w' => w'.cell? ⟨w.heap.size, 0, none⟩ = some (.int .i64 a) ∧ w'.cell? ⟨w.heap.size, 1, none⟩ = some (.int .i64 b) ∧ w'.cell? ⟨w.heap.size, 2, none⟩ = some (.int .i64 c) ∧ w'.cell? ⟨w.heap.size + 1, 0, none⟩ = some (.int .i64 x) ∧ w'.cell? ⟨w.heap.size + 1, 1, none⟩ = some (.int .i64 y) ∧ w'.cell? ⟨w.heap.size + 1, 2, none⟩ = some (.int .i64 d))
              ((refine sixc ?_ hq hp; repeat (first | exact Below.refl _ _ | refine below_drw ?_ | refine below_to ?_ (by assumption))))
              ((go_at_call 64; first | (with_reducible refine (HU.out _).mono ?_; rintro e w3 ⟨rfl, bl3⟩) | (with_reducible refine (HV.out _).mono ?_; rintro e w4 ⟨rfl, bl4⟩)))
            all_goals
              go_wp2_with fail
              go_ret
              refine ⟨by first | rfl | exact ret_bool2 (by simp), ?_⟩
              refine below_to hwc ?_
              repeat (first | exact Below.refl _ _ | refine below_drw ?_ | refine below_to ?_ (by assumption))
        | true =>
          rw [befV_eq hu hv]
          rw [hu] at HU
          rw [hv] at HV
          clear hu hv
          rw [if_pos rfl] at HU
          rw [if_pos rfl] at HV
          generalize e1 : a * y = P at *
          generalize e2 : b * x = Q at *
          have e3 : x * b = Q := by rw [Int.mul_comm]; exact e2
          go_enter Try.func40, Try.ntmps40
          go_wp2_with fail
          refine (HO.out _).mono ?_
          rintro e w1 ⟨rfl, bl1⟩
          obtain ⟨_, ⟨p0, p1, p2, _, _, _⟩, _⟩ := sboxes bl1
          go_wp2_with fail
          refine (HP.out _).mono ?_
          rintro e w2 ⟨rfl, bl2⟩
          clear p0 p1 p2
          obtain ⟨⟨q0, q1, q2, _, _, _⟩, ⟨p0, p1, p2, _, _, _⟩, hbw⟩ := sboxes (below_to bl1 bl2)
          clear bl1 bl2
          have hq := And.intro q0 (And.intro q1 q2)
          have hp := And.intro p0 (And.intro p1 p2)
          clear q0 q1 q2 p0 p1 p2
          go_upto_region 3 with fail
          go_cut [17] from 13 to 16 (fun s wx => s = .bool false ∧ Below w2.heap.size w2 wx)
          case first =>
            obtain ⟨q0, q1, q2⟩ := id hq
            obtain ⟨p0, p1, p2⟩ := id hp
            go_region_held3 (fun w' => w'.cell? ⟨w.heap.size, 0, none⟩ = some (.int .i64 a) ∧ w'.cell? ⟨w.heap.size, 1, none⟩ = some (.int .i64 b) ∧ w'.cell? ⟨w.heap.size, 2, none⟩ = some (.int .i64 c) ∧ w'.cell? ⟨w.heap.size + 1, 0, none⟩ = some (.int .i64 x) ∧ w'.cell? ⟨w.heap.size + 1, 1, none⟩ = some (.int .i64 y) ∧ w'.cell? ⟨w.heap.size + 1, 2, none⟩ = some (.int .i64 d))
              ((refine sixc ?_ hq hp; repeat (first | exact Below.refl _ _ | refine below_drw ?_ | refine below_to ?_ (by assumption))))
              ((go_at_call 64; first | (with_reducible refine (HU.out _).mono ?_; rintro e w3 ⟨rfl, bl3⟩) | (with_reducible refine (HV.out _).mono ?_; rintro e w4 ⟨rfl, bl4⟩)))
            all_goals
              go_wp2_with fail
              go_meet
              refine ⟨rfl, ?_⟩
              repeat (first | exact Below.refl _ _ | refine below_drw ?_ | refine below_to ?_ (by assumption))
          case rest =>
            obtain ⟨rfl, hbx⟩ := hcut
            have hq' := three hbx hq
            have hp' := three hbx hp
            have hwc := below_to hbw hbx
            clear hq hp hbw hbx
            obtain ⟨q0, q1, q2⟩ := hq'
            obtain ⟨p0, p1, p2⟩ := hp'
            go_wp2_with fail
            go_ret
            exact ⟨ret_bool2 (by first | rfl | (simp; done) | (simp; omega)), hwc⟩
set_option maxHeartbeats 3200000 in
theorem impl_bef (a b c x y d : Int) (w : World) (ha : -9223372036854775808 ≤ a) (ha2 : a ≤ 9223372036854775807) (hb : -9223372036854775808 ≤ b) (hb2 : b ≤ 9223372036854775807) (hc : -9223372036854775808 ≤ c) (hc2 : c ≤ 9223372036854775807) (hx : -9223372036854775808 ≤ x) (hx2 : x ≤ 9223372036854775807) (hy : -9223372036854775808 ≤ y) (hy2 : y ≤ 9223372036854775807) (hd : -9223372036854775808 ≤ d) (hd2 : d ≤ 9223372036854775807) :
    Calls Try.prog 26 #[.agg #[.int .i64 a, .int .i64 b, .int .i64 c], .agg #[.int .i64 x, .int .i64 y, .int .i64 d]] w fun e w' => e = .returned (.bool (befH a b c x y d)) ∧ Below w.heap.size w w' := by
  have HO := Lib.hid (fun W => impl_hok a b c W ha ha2 hb hb2 hc hc2)
  have HP := Lib.hid (fun W => impl_hok x y d W hx hx2 hy hy2 hd hd2)
  unfold befH
  cases hk : okH a b c with
  | false =>
    rw [hk] at HO
    rw [Bool.false_and, Bool.false_and]
    clear hk
    go_enter Try.func26, Try.ntmps26
    go_wp2_with fail
    refine (HO.out _).mono ?_
    rintro e w1 ⟨rfl, bl1⟩
    obtain ⟨_, _, hbw⟩ := sboxes bl1
    clear bl1
    go_wp2_with fail
    go_ret
    exact ⟨rfl, hbw⟩
  | true =>
    cases hl : okH x y d with
    | false =>
      rw [hk] at HO
      rw [hl] at HP
      rw [Bool.true_and, Bool.false_and]
      clear hk hl
      go_enter Try.func26, Try.ntmps26
      go_wp2_with fail
      refine (HO.out _).mono ?_
      rintro e w1 ⟨rfl, bl1⟩
      obtain ⟨_, ⟨p0, p1, p2, _, _, _⟩, _⟩ := sboxes bl1
      go_wp2_with fail
      refine (HP.out _).mono ?_
      rintro e w2 ⟨rfl, bl2⟩
      obtain ⟨_, _, hbw⟩ := sboxes (below_to bl1 bl2)
      clear bl1 bl2 p0 p1 p2
      go_wp2_with fail
      go_ret
      exact ⟨rfl, hbw⟩
    | true =>
      have HU := Lib.hid (fun W => impl_up a b c W)
      have HV := Lib.hid (fun W => impl_up x y d W)
      have HT := Lib.hid (fun W => impl_turn a b c x y d W hk hl)
      rw [hk] at HO
      rw [hl] at HP
      rw [Bool.true_and, Bool.true_and]
      clear hk hl
      cases hu : upB a b with
      | false =>
        cases hv : upB x y with
        | false =>
          rw [befV_eq hu hv]
          rw [hu] at HU
          rw [hv] at HV
          clear hu hv
          generalize a * y - b * x = T at *
          go_enter Try.func26, Try.ntmps26
          go_wp2_with fail
          refine (HO.out _).mono ?_
          rintro e w1 ⟨rfl, bl1⟩
          obtain ⟨_, ⟨p0, p1, p2, _, _, _⟩, _⟩ := sboxes bl1
          go_wp2_with fail
          refine (HP.out _).mono ?_
          rintro e w2 ⟨rfl, bl2⟩
          clear p0 p1 p2
          obtain ⟨⟨q0, q1, q2, _, _, _⟩, ⟨p0, p1, p2, _, _, _⟩, hbw⟩ := sboxes (below_to bl1 bl2)
          clear bl1 bl2
          have hq := And.intro q0 (And.intro q1 q2)
          have hp := And.intro p0 (And.intro p1 p2)
          clear q0 q1 q2 p0 p1 p2
          obtain ⟨q0, q1, q2⟩ := id hq
          obtain ⟨p0, p1, p2⟩ := id hp
          go_wp2_with fail
          refine (HU.out _).mono ?_
          rintro e w3 ⟨rfl, bk3⟩
          have hq3 := three bk3 hq
          have hp3 := three bk3 hp
          have hbw3 := below_to hbw bk3
          clear q0 q1 q2 p0 p1 p2 hq hp hbw bk3
          have hq := hq3
          have hp := hp3
          have hbw := hbw3
          clear hq3 hp3 hbw3
          obtain ⟨q0, q1, q2⟩ := id hq
          obtain ⟨p0, p1, p2⟩ := id hp
          go_wp2_with fail
          refine (HV.out _).mono ?_
          rintro e w4 ⟨rfl, bk4⟩
          have hq4 := three bk4 hq
          have hp4 := three bk4 hp
          have hbw4 := below_to hbw bk4
          clear q0 q1 q2 p0 p1 p2 hq hp hbw bk4
          have hq := hq4
          have hp := hp4
          have hbw := hbw4
          clear hq4 hp4 hbw4
          obtain ⟨q0, q1, q2⟩ := id hq
          obtain ⟨p0, p1, p2⟩ := id hp
          go_wp2_with fail
          refine (HT.out _).mono ?_
          rintro e w5 ⟨rfl, bk5⟩
          have hq5 := three bk5 hq
          have hp5 := three bk5 hp
          have hbw5 := below_to hbw bk5
          clear q0 q1 q2 p0 p1 p2 hq hp hbw bk5
          have hq := hq5
          have hp := hp5
          have hbw := hbw5
          clear hq5 hp5 hbw5
          go_wp2_with fail
          go_ret
          exact ⟨ret_bool2 (by first | rfl | (simp; done) | (simp; omega)), hbw⟩
        | true =>
          rw [befV_ne hu hv (by simp)]
          rw [hu] at HU
          rw [hv] at HV
          clear hu hv
          generalize a * y - b * x = T at *
          go_enter Try.func26, Try.ntmps26
          go_wp2_with fail
          refine (HO.out _).mono ?_
          rintro e w1 ⟨rfl, bl1⟩
          obtain ⟨_, ⟨p0, p1, p2, _, _, _⟩, _⟩ := sboxes bl1
          go_wp2_with fail
          refine (HP.out _).mono ?_
          rintro e w2 ⟨rfl, bl2⟩
          clear p0 p1 p2
          obtain ⟨⟨q0, q1, q2, _, _, _⟩, ⟨p0, p1, p2, _, _, _⟩, hbw⟩ := sboxes (below_to bl1 bl2)
          clear bl1 bl2
          have hq := And.intro q0 (And.intro q1 q2)
          have hp := And.intro p0 (And.intro p1 p2)
          clear q0 q1 q2 p0 p1 p2
          obtain ⟨q0, q1, q2⟩ := id hq
          obtain ⟨p0, p1, p2⟩ := id hp
          go_wp2_with fail
          refine (HU.out _).mono ?_
          rintro e w3 ⟨rfl, bk3⟩
          have hq3 := three bk3 hq
          have hp3 := three bk3 hp
          have hbw3 := below_to hbw bk3
          clear q0 q1 q2 p0 p1 p2 hq hp hbw bk3
          have hq := hq3
          have hp := hp3
          have hbw := hbw3
          clear hq3 hp3 hbw3
          obtain ⟨q0, q1, q2⟩ := id hq
          obtain ⟨p0, p1, p2⟩ := id hp
          go_wp2_with fail
          refine (HV.out _).mono ?_
          rintro e w4 ⟨rfl, bk4⟩
          have hq4 := three bk4 hq
          have hp4 := three bk4 hp
          have hbw4 := below_to hbw bk4
          clear q0 q1 q2 p0 p1 p2 hq hp hbw bk4
          have hq := hq4
          have hp := hp4
          have hbw := hbw4
          clear hq4 hp4 hbw4
          go_wp2_with fail
          go_ret
          exact ⟨ret_bool2 (by first | rfl | (simp; done) | (simp; omega)), hbw⟩
      | true =>
        cases hv : upB x y with
        | false =>
          rw [befV_ne hu hv (by simp)]
          rw [hu] at HU
          rw [hv] at HV
          clear hu hv
          generalize a * y - b * x = T at *
          go_enter Try.func26, Try.ntmps26
          go_wp2_with fail
          refine (HO.out _).mono ?_
          rintro e w1 ⟨rfl, bl1⟩
          obtain ⟨_, ⟨p0, p1, p2, _, _, _⟩, _⟩ := sboxes bl1
          go_wp2_with fail
          refine (HP.out _).mono ?_
          rintro e w2 ⟨rfl, bl2⟩
          clear p0 p1 p2
          obtain ⟨⟨q0, q1, q2, _, _, _⟩, ⟨p0, p1, p2, _, _, _⟩, hbw⟩ := sboxes (below_to bl1 bl2)
          clear bl1 bl2
          have hq := And.intro q0 (And.intro q1 q2)
          have hp := And.intro p0 (And.intro p1 p2)
          clear q0 q1 q2 p0 p1 p2
          obtain ⟨q0, q1, q2⟩ := id hq
          obtain ⟨p0, p1, p2⟩ := id hp
          go_wp2_with fail
          refine (HU.out _).mono ?_
          rintro e w3 ⟨rfl, bk3⟩
          have hq3 := three bk3 hq
          have hp3 := three bk3 hp
          have hbw3 := below_to hbw bk3
          clear q0 q1 q2 p0 p1 p2 hq hp hbw bk3
          have hq := hq3
          have hp := hp3
          have hbw := hbw3
          clear hq3 hp3 hbw3
          obtain ⟨q0, q1, q2⟩ := id hq
          obtain ⟨p0, p1, p2⟩ := id hp
          go_wp2_with fail
          refine (HV.out _).mono ?_
          rintro e w4 ⟨rfl, bk4⟩
          have hq4 := three bk4 hq
          have hp4 := three bk4 hp
          have hbw4 := below_to hbw bk4
          clear q0 q1 q2 p0 p1 p2 hq hp hbw bk4
          have hq := hq4
          have hp := hp4
          have hbw := hbw4
          clear hq4 hp4 hbw4
          go_wp2_with fail
          go_ret
          exact ⟨ret_bool2 (by first | rfl | (simp; done) | (simp; omega)), hbw⟩
        | true =>
          rw [befV_eq hu hv]
          rw [hu] at HU
          rw [hv] at HV
          clear hu hv
          generalize a * y - b * x = T at *
          go_enter Try.func26, Try.ntmps26
          go_wp2_with fail
          refine (HO.out _).mono ?_
          rintro e w1 ⟨rfl, bl1⟩
          obtain ⟨_, ⟨p0, p1, p2, _, _, _⟩, _⟩ := sboxes bl1
          go_wp2_with fail
          refine (HP.out _).mono ?_
          rintro e w2 ⟨rfl, bl2⟩
          clear p0 p1 p2
          obtain ⟨⟨q0, q1, q2, _, _, _⟩, ⟨p0, p1, p2, _, _, _⟩, hbw⟩ := sboxes (below_to bl1 bl2)
          clear bl1 bl2
          have hq := And.intro q0 (And.intro q1 q2)
          have hp := And.intro p0 (And.intro p1 p2)
          clear q0 q1 q2 p0 p1 p2
          obtain ⟨q0, q1, q2⟩ := id hq
          obtain ⟨p0, p1, p2⟩ := id hp
          go_wp2_with fail
          refine (HU.out _).mono ?_
          rintro e w3 ⟨rfl, bk3⟩
          have hq3 := three bk3 hq
          have hp3 := three bk3 hp
          have hbw3 := below_to hbw bk3
          clear q0 q1 q2 p0 p1 p2 hq hp hbw bk3
          have hq := hq3
          have hp := hp3
          have hbw := hbw3
          clear hq3 hp3 hbw3
          obtain ⟨q0, q1, q2⟩ := id hq
          obtain ⟨p0, p1, p2⟩ := id hp
          go_wp2_with fail
          refine (HV.out _).mono ?_
          rintro e w4 ⟨rfl, bk4⟩
          have hq4 := three bk4 hq
          have hp4 := three bk4 hp
          have hbw4 := below_to hbw bk4
          clear q0 q1 q2 p0 p1 p2 hq hp hbw bk4
          have hq := hq4
          have hp := hp4
          have hbw := hbw4
          clear hq4 hp4 hbw4
          obtain ⟨q0, q1, q2⟩ := id hq
          obtain ⟨p0, p1, p2⟩ := id hp
          go_wp2_with fail
          refine (HT.out _).mono ?_
          rintro e w5 ⟨rfl, bk5⟩
          have hq5 := three bk5 hq
          have hp5 := three bk5 hp
          have hbw5 := below_to hbw bk5
          clear q0 q1 q2 p0 p1 p2 hq hp hbw bk5
          have hq := hq5
          have hp := hp5
          have hbw := hbw5
          clear hq5 hp5 hbw5
          go_wp2_with fail
          go_ret
          exact ⟨ret_bool2 (by first | rfl | (simp; done) | (simp; omega)), hbw⟩
set_option maxHeartbeats 1600000 in
theorem law_bef (a b c x y d : Int) (wa : (Lit.int .i64 a).wf = true) (wb : (Lit.int .i64 b).wf = true) (wc : (Lit.int .i64 c).wf = true) (wx : (Lit.int .i64 x).wf = true) (wy : (Lit.int .i64 y).wf = true) (wd : (Lit.int .i64 d).wf = true) (w : World) :
    Calls Try.prog 12 #[.agg #[.int .i64 a, .int .i64 b, .int .i64 c], .agg #[.int .i64 x, .int .i64 y, .int .i64 d]] w fun e w' => e = .returned (.bool true) ∧ Below w.heap.size w w' := by
  obtain ⟨ha, ha2⟩ := bounds_i64 wa
  obtain ⟨hb, hb2⟩ := bounds_i64 wb
  obtain ⟨hc, hc2⟩ := bounds_i64 wc
  obtain ⟨hx, hx2⟩ := bounds_i64 wx
  obtain ⟨hy, hy2⟩ := bounds_i64 wy
  obtain ⟨hd, hd2⟩ := bounds_i64 wd
  clear wa wb wc wx wy wd
  have HS := Lib.hid (fun W => spec_bef a b c x y d W ha ha2 hb hb2 hc hc2 hx hx2 hy hy2 hd hd2)
  have HI := Lib.hid (fun W => impl_bef a b c x y d W ha ha2 hb hb2 hc hc2 hx hx2 hy hy2 hd hd2)
  generalize befH a b c x y d = r at *
  clear ha ha2 hb hb2 hc hc2 hx hx2 hy hy2 hd hd2
  have hw : Below w.heap.size w ((w.alloc (.cells #[.int .i64 a, .int .i64 b, .int .i64 c] 43)).alloc (.cells #[.int .i64 x, .int .i64 y, .int .i64 d] 43)) := below_bx2 (below_box _ _) _
  have hp := sixb w (.int .i64 a) (.int .i64 b) (.int .i64 c) (.int .i64 x) (.int .i64 y) (.int .i64 d) 43 43
  go_enter Try.func12, Try.ntmps12
  go_upto_region 1 with fail
  generalize (w.alloc (.cells #[.int .i64 a, .int .i64 b, .int .i64 c] 43)).alloc (.cells #[.int .i64 x, .int .i64 y, .int .i64 d] 43) = V at *
  obtain ⟨p, q⟩ := hp
  go_cut [5] from 7 to 11 (fun s5 wx => s5 = .bool r ∧ Below V.heap.size V wx)
  case first =>
    obtain ⟨p0, p1, p2⟩ := id p
    obtain ⟨q0, q1, q2⟩ := id q
    go_region_held3 (fun w' => w'.cell? ⟨w.heap.size, 0, none⟩ = some (.int .i64 a) ∧ w'.cell? ⟨w.heap.size, 1, none⟩ = some (.int .i64 b) ∧ w'.cell? ⟨w.heap.size, 2, none⟩ = some (.int .i64 c) ∧ w'.cell? ⟨w.heap.size + 1, 0, none⟩ = some (.int .i64 x) ∧ w'.cell? ⟨w.heap.size + 1, 1, none⟩ = some (.int .i64 y) ∧ w'.cell? ⟨w.heap.size + 1, 2, none⟩ = some (.int .i64 d))
      ((refine sixc ?_ p q; repeat (first | exact Below.refl _ _ | refine below_drw ?_ | refine below_to ?_ (by assumption))))
      (first | (go_at_call 31; refine (to_half _ _ _ _).mono ?_; rintro e w2 ⟨rfl, bl2⟩) | (go_at_call 40; refine (HS.out _).mono ?_; rintro e w3 ⟨rfl, bl3⟩))
    all_goals
      go_wp2_with fail
      go_meet
      refine ⟨rfl, ?_⟩
      repeat (first | exact Below.refl _ _ | refine below_drw ?_ | refine below_to ?_ (by assumption))
  case rest =>
    obtain ⟨rfl, hbx⟩ := hcut
    have p' := three hbx p
    have q' := three hbx q
    have hwc := below_to hw hbx
    clear p q hw hbx
    go_upto_region 2 with fail
    go_cut [6] from 12 to 16 (fun s5 wx => s5 = .bool r ∧ Below wc.heap.size wc wx)
    case first =>
      obtain ⟨p0, p1, p2⟩ := id p'
      obtain ⟨q0, q1, q2⟩ := id q'
      go_region_held3 (fun w' => w'.cell? ⟨w.heap.size, 0, none⟩ = some (.int .i64 a) ∧ w'.cell? ⟨w.heap.size, 1, none⟩ = some (.int .i64 b) ∧ w'.cell? ⟨w.heap.size, 2, none⟩ = some (.int .i64 c) ∧ w'.cell? ⟨w.heap.size + 1, 0, none⟩ = some (.int .i64 x) ∧ w'.cell? ⟨w.heap.size + 1, 1, none⟩ = some (.int .i64 y) ∧ w'.cell? ⟨w.heap.size + 1, 2, none⟩ = some (.int .i64 d))
        ((refine sixc ?_ p' q'; repeat (first | exact Below.refl _ _ | refine below_drw ?_ | refine below_to ?_ (by assumption))))
        (first | (go_at_call 31; refine (to_half _ _ _ _).mono ?_; rintro e w2 ⟨rfl, bl2⟩) | (go_at_call 26; refine (HI.out _).mono ?_; rintro e w3 ⟨rfl, bl3⟩))
      all_goals
        go_wp2_with fail
        go_meet
        refine ⟨rfl, ?_⟩
        repeat (first | exact Below.refl _ _ | refine below_drw ?_ | refine below_to ?_ (by assumption))
    case rest =>
      obtain ⟨rfl, hbx2⟩ := hcut
      have hfin := below_to hwc hbx2
      go_wp2_with fail
      go_ret
      exact ⟨rfl, hfin⟩

end Go.Proofs.Ytkodoedkdgldnaa
