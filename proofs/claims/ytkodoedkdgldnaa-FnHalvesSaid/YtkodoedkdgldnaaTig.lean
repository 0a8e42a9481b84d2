/- The contracts of both TighterHalf functions over the translation, and the walk of their law. -/
import Derived.Test.YtkodoedkdgldnaaSdr
import Derived.Test.YtkodoedkdgldnaaHll
namespace Go.Proofs.Ytkodoedkdgldnaa
open Go.RowKit

/-- the sum of the magnitudes -/
def lenH (a b : Int) : Int := (a.natAbs : Int) + (b.natAbs : Int)
/-- what TighterHalf answers -/
def tigH (a b c x y d : Int) : Value := if sdH a b c x y d = true then (if d * lenH a b < c * lenH x y then .agg #[.int .i64 x, .int .i64 y, .int .i64 d] else .agg #[.int .i64 a, .int .i64 b, .int .i64 c]) else .agg #[.int .i64 0, .int .i64 0, .int .i64 0]
theorem tigH_ex (a b c x y d : Int) : ∃ X Y D : Int, tigH a b c x y d = .agg #[.int .i64 X, .int .i64 Y, .int .i64 D] := by
  unfold tigH
  split
  · split <;> exact ⟨_, _, _, rfl⟩
  · exact ⟨_, _, _, rfl⟩
theorem sdH_ok {a b c x y d : Int} (h : sdH a b c x y d = true) : okH a b c = true ∧ okH x y d = true := by
  unfold sdH at h
  simp only [Bool.and_eq_true] at h
  exact h.1
theorem len_in {a b c x y d : Int} (h : okH a b c = true) (k : okH x y d = true) : 0 ≤ lenH a b ∧ lenH a b ≤ 100000 ∧ -10000000000000 ≤ d * lenH a b ∧ d * lenH a b ≤ 10000000000000 := by
  obtain ⟨a1, a2, b1, b2, _⟩ := (okH_iff _ _ _).1 h
  obtain ⟨_, _, _, _, _, d1, d2, _⟩ := (okH_iff _ _ _).1 k
  have l : 0 ≤ lenH a b ∧ lenH a b ≤ 100000 := by unfold lenH; omega
  have m := mul_in d (lenH a b) 100000000 100000 d1 d2 (by omega) (by omega)
  omega

set_option maxHeartbeats 3200000 in
theorem spec_tig (a b c x y d : Int) (w : World) (ha : -9223372036854775808 ≤ a) (ha2 : a ≤ 9223372036854775807) (hb : -9223372036854775808 ≤ b) (hb2 : b ≤ 9223372036854775807) (hc : -9223372036854775808 ≤ c) (hc2 : c ≤ 9223372036854775807) (hx : -9223372036854775808 ≤ x) (hx2 : x ≤ 9223372036854775807) (hy : -9223372036854775808 ≤ y) (hy2 : y ≤ 9223372036854775807) (hd : -9223372036854775808 ≤ d) (hd2 : d ≤ 9223372036854775807) :
    Calls Try.prog 42 #[.agg #[.int .i64 a, .int .i64 b, .int .i64 c], .agg #[.int .i64 x, .int .i64 y, .int .i64 d]] w fun e w' => e = .returned (tigH a b c x y d) ∧ Below w.heap.size w w' := by
  have HO := Lib.hid (fun W => spec_sd a b c x y d W ha ha2 hb hb2 hc hc2 hx hx2 hy hy2 hd hd2)
  cases hk : sdH a b c x y d with
  | false =>
    rw [show tigH a b c x y d = .agg #[.int .i64 0, .int .i64 0, .int .i64 0] from if_neg (by rw [hk]; simp)]
    rw [hk] at HO
    clear hk
    go_enter Try.func42, Try.ntmps42
    go_wp2_with fail
    refine (HO.out _).mono ?_
    rintro e w1 ⟨rfl, bl1⟩
    obtain ⟨⟨q0, q1, q2, _, _, _⟩, ⟨r0, r1, r2, _, _, _⟩, ⟨p0, p1, p2, f0, f1, f2⟩, hbw⟩ := sboxes3 bl1
    clear bl1
    clear HO
    go_wp2_with fail
    refine bodyPost_ret (v := .agg #[.int .i64 0, .int .i64 0, .int .i64 0]) (by simp [results, Try.results42, go_sem, p0, p1, p2]) rfl ⟨rfl, ?_⟩
    exact below_set3 _ _ _ hbw (by omega)
  | true =>
    obtain ⟨k1, k2⟩ := sdH_ok hk
    obtain ⟨l0, l1, l2, l3⟩ := len_in k1 k2
    obtain ⟨n0, n1, n2, n3⟩ := len_in k2 k1
    obtain ⟨a1, a2, b1, b2, _, c1, c2, _⟩ := (okH_iff _ _ _).1 k1
    obtain ⟨x1, x2, y1, y2, _, d1, d2, _⟩ := (okH_iff _ _ _).1 k2
    have t : tigH a b c x y d = if d * lenH a b < c * lenH x y then .agg #[.int .i64 x, .int .i64 y, .int .i64 d] else .agg #[.int .i64 a, .int .i64 b, .int .i64 c] := if_pos hk
    rw [t]
    rw [hk] at HO
    clear hk k1 k2 t
    by_cases hlt : d * lenH a b < c * lenH x y
    · rw [if_pos hlt]
      generalize hL : lenH a b = L at *
      generalize hM : lenH x y = M at *
      have HL := Lib.hid hL
      have HM := Lib.hid hM
      clear hL hM
      generalize e1 : d * L = P at *
      generalize e2 : c * M = Q at *
      go_enter Try.func42, Try.ntmps42
      go_wp2_with fail
      refine (HO.out _).mono ?_
      rintro e w1 ⟨rfl, bl1⟩
      obtain ⟨⟨q0, q1, q2, _, _, _⟩, ⟨r0, r1, r2, _, _, _⟩, ⟨p0, p1, p2, f0, f1, f2⟩, hbw⟩ := sboxes3 bl1
      clear bl1
      clear HO
      go_upto_region 3 with fail
      go_cut [5] from 12 to 24 (fun s wx => s = .int .i64 L ∧ wx = w1)
      case first =>
        go_wp2_with fail
        all_goals
          go_meet
          exact ⟨by rw [← HL.out]; unfold lenH; congr 1; omega, rfl⟩
      case rest =>
        obtain ⟨rfl, rfl⟩ := hcut
        go_upto_region 4 with fail
        go_cut [6] from 25 to 37 (fun s wx => s = .int .i64 M ∧ wx = wc)
        case first =>
          go_wp2_with fail
          all_goals
            go_meet
            exact ⟨by rw [← HM.out]; unfold lenH; congr 1; omega, rfl⟩
        case rest =>
          obtain ⟨rfl, rfl⟩ := hcut
          go_wp2_with fail
          refine bodyPost_ret (v := .agg #[.int .i64 x, .int .i64 y, .int .i64 d]) (by simp [results, Try.results42, go_sem, p0, p1, p2]) rfl ⟨rfl, ?_⟩
          exact below_set3 _ _ _ hbw (by omega)
    · rw [if_neg hlt]
      generalize hL : lenH a b = L at *
      generalize hM : lenH x y = M at *
      have HL := Lib.hid hL
      have HM := Lib.hid hM
      clear hL hM
      generalize e1 : d * L = P at *
      generalize e2 : c * M = Q at *
      go_enter Try.func42, Try.ntmps42
      go_wp2_with fail
      refine (HO.out _).mono ?_
      rintro e w1 ⟨rfl, bl1⟩
      obtain ⟨⟨q0, q1, q2, _, _, _⟩, ⟨r0, r1, r2, _, _, _⟩, ⟨p0, p1, p2, f0, f1, f2⟩, hbw⟩ := sboxes3 bl1
      clear bl1
      clear HO
      go_upto_region 3 with fail
      go_cut [5] from 12 to 24 (fun s wx => s = .int .i64 L ∧ wx = w1)
      case first =>
        go_wp2_with fail
        all_goals
          go_meet
          exact ⟨by rw [← HL.out]; unfold lenH; congr 1; omega, rfl⟩
      case rest =>
        obtain ⟨rfl, rfl⟩ := hcut
        go_upto_region 4 with fail
        go_cut [6] from 25 to 37 (fun s wx => s = .int .i64 M ∧ wx = wc)
        case first =>
          go_wp2_with fail
          all_goals
            go_meet
            exact ⟨by rw [← HM.out]; unfold lenH; congr 1; omega, rfl⟩
        case rest =>
          obtain ⟨rfl, rfl⟩ := hcut
          go_wp2_with fail
          refine bodyPost_ret (v := .agg #[.int .i64 a, .int .i64 b, .int .i64 c]) (by simp [results, Try.results42, go_sem, p0, p1, p2]) rfl ⟨rfl, ?_⟩
          exact below_set3 _ _ _ hbw (by omega)

set_option maxHeartbeats 1600000 in
theorem impl_len (a b c : Int) (w : World) (a1 : -50000 ≤ a) (a2 : a ≤ 50000) (b1 : -50000 ≤ b) (b2 : b ≤ 50000) :
    Calls Try.prog 58 #[.agg #[.int .i64 a, .int .i64 b, .int .i64 c]] w fun e w' => e = .returned (.int .i64 (lenH a b)) ∧ Below w.heap.size w w' := by
  have hw := below_box w (.cells #[.int .i64 a, .int .i64 b, .int .i64 c] 24)
  have HA := Lib.hid (fun W => magn a W (by omega) (by omega))
  have HB := Lib.hid (fun W => magn b W (by omega) (by omega))
  unfold lenH
  have ka : a.natAbs ≤ 50000 := by omega
  have kb : b.natAbs ≤ 50000 := by omega
  generalize a.natAbs = A at *
  generalize b.natAbs = B at *
  have v0 : IntKind.u64.wrap ((A : Int) + (B : Int)) = (A : Int) + (B : Int) := IntWalk.u64_in _ (by omega)
  have v1 : IntKind.i64.wrap ((A : Int) + (B : Int)) = (A : Int) + (B : Int) := IntWalk.i64_in _ (by omega)
  go_enter Try.func58, Try.ntmps58
  go_wp2_with fail
  go_quiet ((go_at_call 56; first | (with_reducible exact Calls.quiet_of_same (HA.out _)) | (with_reducible exact Calls.quiet_of_same (HB.out _))))
  go_wp2_with fail
  go_ret
  exact ⟨rfl, below_drew hw _⟩

set_option maxHeartbeats 3200000 in
theorem impl_tig (a b c x y d : Int) (w : World) (ha : -9223372036854775808 ≤ a) (ha2 : a ≤ 9223372036854775807) (hb : -9223372036854775808 ≤ b) (hb2 : b ≤ 9223372036854775807) (hc : -9223372036854775808 ≤ c) (hc2 : c ≤ 9223372036854775807) (hx : -9223372036854775808 ≤ x) (hx2 : x ≤ 9223372036854775807) (hy : -9223372036854775808 ≤ y) (hy2 : y ≤ 9223372036854775807) (hd : -9223372036854775808 ≤ d) (hd2 : d ≤ 9223372036854775807) :
    Calls Try.prog 29 #[.agg #[.int .i64 a, .int .i64 b, .int .i64 c], .agg #[.int .i64 x, .int .i64 y, .int .i64 d]] w fun e w' => e = .returned (tigH a b c x y d) ∧ Below w.heap.size w w' := by
  have HO := Lib.hid (fun W => impl_sd a b c x y d W ha ha2 hb hb2 hc hc2 hx hx2 hy hy2 hd hd2)
  cases hk : sdH a b c x y d with
  | false =>
    rw [show tigH a b c x y d = .agg #[.int .i64 0, .int .i64 0, .int .i64 0] from if_neg (by rw [hk]; simp)]
    rw [hk] at HO
    clear hk
    go_enter Try.func29, Try.ntmps29
    go_wp2_with fail
    refine (HO.out _).mono ?_
    rintro e w1 ⟨rfl, bl1⟩
    obtain ⟨⟨q0, q1, q2, _, _, _⟩, ⟨r0, r1, r2, _, _, _⟩, ⟨p0, p1, p2, f0, f1, f2⟩, hbw⟩ := sboxes3 bl1
    clear bl1
    clear HO
    go_wp2_with fail
    refine bodyPost_ret (v := .agg #[.int .i64 0, .int .i64 0, .int .i64 0]) (by simp [results, Try.results29, go_sem, p0, p1, p2]) rfl ⟨rfl, ?_⟩
    exact below_set3 _ _ _ hbw (by omega)
  | true =>
    obtain ⟨k1, k2⟩ := sdH_ok hk
    obtain ⟨l0, l1, l2, l3⟩ := len_in k1 k2
    obtain ⟨n0, n1, n2, n3⟩ := len_in k2 k1
    obtain ⟨a1, a2, b1, b2, _, c1, c2, _⟩ := (okH_iff _ _ _).1 k1
    obtain ⟨x1, x2, y1, y2, _, d1, d2, _⟩ := (okH_iff _ _ _).1 k2
    have t : tigH a b c x y d = if d * lenH a b < c * lenH x y then .agg #[.int .i64 x, .int .i64 y, .int .i64 d] else .agg #[.int .i64 a, .int .i64 b, .int .i64 c] := if_pos hk
    rw [t]
    rw [hk] at HO
    clear hk k1 k2 t
    by_cases hlt : d * lenH a b < c * lenH x y
    · rw [if_pos hlt]
      have HU := Lib.hid (fun W => impl_len a b c W a1 a2 b1 b2)
      have HV := Lib.hid (fun W => impl_len x y d W x1 x2 y1 y2)
      generalize lenH a b = L at *
      generalize lenH x y = M at *
      generalize e1 : d * L = P at *
      generalize e2 : c * M = Q at *
      have vP : IntKind.i64.wrap P = P := IntWalk.i64_in _ (by omega)
      have vQ : IntKind.i64.wrap Q = Q := IntWalk.i64_in _ (by omega)
      go_enter Try.func29, Try.ntmps29
      go_wp2_with fail
      refine (HO.out _).mono ?_
      rintro e w1 ⟨rfl, bl1⟩
      obtain ⟨⟨q0, q1, q2, _, _, _⟩, ⟨r0, r1, r2, _, _, _⟩, ⟨p0, p1, p2, f0, f1, f2⟩, hbw⟩ := sboxes3 bl1
      clear bl1
      clear HO
      have H3 : Has3 w1 (w.heap.size + 1 + 1) (.int .i64 0) (.int .i64 0) (.int .i64 0) := ⟨p0, p1, p2, f0, f1, f2⟩
      have hq := And.intro q0 (And.intro q1 q2)
      have hp := And.intro r0 (And.intro r1 r2)
      clear p0 p1 p2 f0 f1 f2 q0 q1 q2 r0 r1 r2
      go_upto_region 3 with fail
      go_cut [20] from 10 to 19 (fun s wx => s = .bool true ∧ Below w1.heap.size w1 wx)
      case first =>
        obtain ⟨q0, q1, q2⟩ := id hq
        obtain ⟨p0, p1, p2⟩ := id hp
        go_region_held3 (fun w' => w'.cell? ⟨w.heap.size, 0, none⟩ = some (.int .i64 a) ∧ w'.cell? ⟨w.heap.size, 1, none⟩ = some (.int .i64 b) ∧ w'.cell? ⟨w.heap.size, 2, none⟩ = some (.int .i64 c) ∧ w'.cell? ⟨w.heap.size + 1, 0, none⟩ = some (.int .i64 x) ∧ w'.cell? ⟨w.heap.size + 1, 1, none⟩ = some (.int .i64 y) ∧ w'.cell? ⟨w.heap.size + 1, 2, none⟩ = some (.int .i64 d))
          ((refine sixc ?_ hq hp; repeat (first | exact Below.refl _ _ | refine below_drw ?_ | refine below_to ?_ (by assumption))))
          ((go_at_call 58; first | (with_reducible refine (HU.out _).mono ?_; rintro e w3 ⟨rfl, bl3⟩) | (with_reducible refine (HV.out _).mono ?_; rintro e w4 ⟨rfl, bl4⟩)))
        all_goals
          go_wp2_with fail
          go_meet
          refine ⟨by first | rfl | (congr 1; simp; omega), ?_⟩
          repeat (first | exact Below.refl _ _ | refine below_drw ?_ | refine below_to ?_ (by assumption))
      case rest =>
        obtain ⟨rfl, hbx⟩ := hcut
        obtain ⟨p0, p1, p2, f0, f1, f2⟩ := has3_to hbx H3
        obtain ⟨q0, q1, q2⟩ := three hbx hq
        obtain ⟨r0, r1, r2⟩ := three hbx hp
        have hfin := below_to hbw hbx
        clear hq hp hbw hbx H3
        go_wp2_with fail
        refine bodyPost_ret (v := .agg #[.int .i64 x, .int .i64 y, .int .i64 d]) (by simp [results, Try.results29, go_sem, p0, p1, p2]) rfl ⟨rfl, ?_⟩
        exact below_set3 _ _ _ hfin (by omega)
    · rw [if_neg hlt]
      have HU := Lib.hid (fun W => impl_len a b c W a1 a2 b1 b2)
      have HV := Lib.hid (fun W => impl_len x y d W x1 x2 y1 y2)
      generalize lenH a b = L at *
      generalize lenH x y = M at *
      generalize e1 : d * L = P at *
      generalize e2 : c * M = Q at *
      have vP : IntKind.i64.wrap P = P := IntWalk.i64_in _ (by omega)
      have vQ : IntKind.i64.wrap Q = Q := IntWalk.i64_in _ (by omega)
      go_enter Try.func29, Try.ntmps29
      go_wp2_with fail
      refine (HO.out _).mono ?_
      rintro e w1 ⟨rfl, bl1⟩
      obtain ⟨⟨q0, q1, q2, _, _, _⟩, ⟨r0, r1, r2, _, _, _⟩, ⟨p0, p1, p2, f0, f1, f2⟩, hbw⟩ := sboxes3 bl1
      clear bl1
      clear HO
      have H3 : Has3 w1 (w.heap.size + 1 + 1) (.int .i64 0) (.int .i64 0) (.int .i64 0) := ⟨p0, p1, p2, f0, f1, f2⟩
      have hq := And.intro q0 (And.intro q1 q2)
      have hp := And.intro r0 (And.intro r1 r2)
      clear p0 p1 p2 f0 f1 f2 q0 q1 q2 r0 r1 r2
      go_upto_region 3 with fail
      go_cut [20] from 10 to 19 (fun s wx => s = .bool false ∧ Below w1.heap.size w1 wx)
      case first =>
        obtain ⟨q0, q1, q2⟩ := id hq
        obtain ⟨p0, p1, p2⟩ := id hp
        go_region_held3 (fun w' => w'.cell? ⟨w.heap.size, 0, none⟩ = some (.int .i64 a) ∧ w'.cell? ⟨w.heap.size, 1, none⟩ = some (.int .i64 b) ∧ w'.cell? ⟨w.heap.size, 2, none⟩ = some (.int .i64 c) ∧ w'.cell? ⟨w.heap.size + 1, 0, none⟩ = some (.int .i64 x) ∧ w'.cell? ⟨w.heap.size + 1, 1, none⟩ = some (.int .i64 y) ∧ w'.cell? ⟨w.heap.size + 1, 2, none⟩ = some (.int .i64 d))
          ((refine sixc ?_ hq hp; repeat (first | exact Below.refl _ _ | refine below_drw ?_ | refine below_to ?_ (by assumption))))
          ((go_at_call 58; first | (with_reducible refine (HU.out _).mono ?_; rintro e w3 ⟨rfl, bl3⟩) | (with_reducible refine (HV.out _).mono ?_; rintro e w4 ⟨rfl, bl4⟩)))
        all_goals
          go_wp2_with fail
          go_meet
          refine ⟨by first | rfl | (congr 1; simp; omega), ?_⟩
          repeat (first | exact Below.refl _ _ | refine below_drw ?_ | refine below_to ?_ (by assumption))
      case rest =>
        obtain ⟨rfl, hbx⟩ := hcut
        obtain ⟨p0, p1, p2, f0, f1, f2⟩ := has3_to hbx H3
        obtain ⟨q0, q1, q2⟩ := three hbx hq
        obtain ⟨r0, r1, r2⟩ := three hbx hp
        have hfin := below_to hbw hbx
        clear hq hp hbw hbx H3
        go_wp2_with fail
        refine bodyPost_ret (v := .agg #[.int .i64 a, .int .i64 b, .int .i64 c]) (by simp [results, Try.results29, go_sem, p0, p1, p2]) rfl ⟨rfl, ?_⟩
        exact below_set3 _ _ _ hfin (by omega)

end Go.Proofs.Ytkodoedkdgldnaa
