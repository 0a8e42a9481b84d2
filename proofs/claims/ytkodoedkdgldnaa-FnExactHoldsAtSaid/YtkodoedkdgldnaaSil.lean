/- The walks of SideOf's and HoldsAt's laws. -/
import Derived.Test.YtkodoedkdgldnaaSid
namespace Go.Proofs.Ytkodoedkdgldnaa
open Go.RowKit

set_option maxHeartbeats 1600000 in
theorem law_side (a b c x y d : Int) (wa : (Lit.int .i64 a).wf = true) (wb : (Lit.int .i64 b).wf = true) (wc : (Lit.int .i64 c).wf = true) (wx : (Lit.int .i64 x).wf = true) (wy : (Lit.int .i64 y).wf = true) (wd : (Lit.int .i64 d).wf = true) (w : World) :
    Calls Try.prog 8 #[.agg #[.int .i64 a, .int .i64 b, .int .i64 c], .agg #[.int .i64 x, .int .i64 y, .int .i64 d]] w fun e w' => e = .returned (.bool true) ∧ Below w.heap.size w w' := by
  obtain ⟨ha, ha2⟩ := bounds_i64 wa
  obtain ⟨hb, hb2⟩ := bounds_i64 wb
  obtain ⟨hc, hc2⟩ := bounds_i64 wc
  obtain ⟨hx, hx2⟩ := bounds_i64 wx
  obtain ⟨hy, hy2⟩ := bounds_i64 wy
  obtain ⟨hd, hd2⟩ := bounds_i64 wd
  clear wa wb wc wx wy wd
  have HS := Lib.hid (fun W => spec_side a b c x y d W ha ha2 hb hb2 hc hc2 hx hx2 hy hy2 hd hd2)
  have HI := Lib.hid (fun W => impl_side a b c x y d W ha ha2 hb hb2 hc hc2 hx hx2 hy hy2 hd hd2)
  generalize sideH a b c x y d = r at *
  clear ha ha2 hb hb2 hc hc2 hx hx2 hy hy2 hd hd2
  have hw : Below w.heap.size w ((w.alloc (.cells #[.int .i64 a, .int .i64 b, .int .i64 c] 43)).alloc (.cells #[.int .i64 x, .int .i64 y, .int .i64 d] 47)) := below_bx2 (below_box _ _) _
  have hp := sixb w (.int .i64 a) (.int .i64 b) (.int .i64 c) (.int .i64 x) (.int .i64 y) (.int .i64 d) 43 47
  go_enter Try.func8, Try.ntmps8
  go_upto_region 1 with fail
  generalize (w.alloc (.cells #[.int .i64 a, .int .i64 b, .int .i64 c] 43)).alloc (.cells #[.int .i64 x, .int .i64 y, .int .i64 d] 47) = V at *
  obtain ⟨p, q⟩ := hp
  go_cut [5] from 7 to 11 (fun s5 wx => s5 = .int .i64 r ∧ Below V.heap.size V wx)
  case first =>
    obtain ⟨p0, p1, p2⟩ := id p
    obtain ⟨q0, q1, q2⟩ := id q
    go_region_held3 (fun w' => w'.cell? ⟨w.heap.size, 0, none⟩ = some (.int .i64 a) ∧ w'.cell? ⟨w.heap.size, 1, none⟩ = some (.int .i64 b) ∧ w'.cell? ⟨w.heap.size, 2, none⟩ = some (.int .i64 c) ∧ w'.cell? ⟨w.heap.size + 1, 0, none⟩ = some (.int .i64 x) ∧ w'.cell? ⟨w.heap.size + 1, 1, none⟩ = some (.int .i64 y) ∧ w'.cell? ⟨w.heap.size + 1, 2, none⟩ = some (.int .i64 d))
      ((refine sixc ?_ p q; repeat (first | exact Below.refl _ _ | refine below_drw ?_ | refine below_to ?_ (by assumption))))
      (first | (go_at_call 31; refine (to_half _ _ _ _).mono ?_; rintro e w2 ⟨rfl, bl2⟩) | (go_at_call 35; refine (to_spot _ _ _ _).mono ?_; rintro e w2 ⟨rfl, bl2⟩) | (go_at_call 34; refine (HS.out _).mono ?_; rintro e w3 ⟨rfl, bl3⟩))
    all_goals
      go_wp2_with fail
      go_meet
      refine ⟨rfl, ?_⟩
      repeat (first | exact Below.refl _ _ | refine below_drw ?_ | refine below_to ?_ (by assumption))
  case rest =>
    obtain ⟨rfl, hbx⟩ := hcut
    have p' := three hbx p
    have q' := three hbx q
    have hwc := below_to hw hbx
    clear p q hw hbx
    go_upto_region 2 with fail
    go_cut [6] from 12 to 16 (fun s5 wx => s5 = .int .i64 r ∧ Below wc.heap.size wc wx)
    case first =>
      obtain ⟨p0, p1, p2⟩ := id p'
      obtain ⟨q0, q1, q2⟩ := id q'
      go_region_held3 (fun w' => w'.cell? ⟨w.heap.size, 0, none⟩ = some (.int .i64 a) ∧ w'.cell? ⟨w.heap.size, 1, none⟩ = some (.int .i64 b) ∧ w'.cell? ⟨w.heap.size, 2, none⟩ = some (.int .i64 c) ∧ w'.cell? ⟨w.heap.size + 1, 0, none⟩ = some (.int .i64 x) ∧ w'.cell? ⟨w.heap.size + 1, 1, none⟩ = some (.int .i64 y) ∧ w'.cell? ⟨w.heap.size + 1, 2, none⟩ = some (.int .i64 d))
        ((refine sixc ?_ p' q'; repeat (first | exact Below.refl _ _ | refine below_drw ?_ | refine below_to ?_ (by assumption))))
        (first | (go_at_call 31; refine (to_half _ _ _ _).mono ?_; rintro e w2 ⟨rfl, bl2⟩) | (go_at_call 35; refine (to_spot _ _ _ _).mono ?_; rintro e w2 ⟨rfl, bl2⟩) | (go_at_call 20; refine (HI.out _).mono ?_; rintro e w3 ⟨rfl, bl3⟩))
      all_goals
        go_wp2_with fail
        go_meet
        refine ⟨rfl, ?_⟩
        repeat (first | exact Below.refl _ _ | refine below_drw ?_ | refine below_to ?_ (by assumption))
    case rest =>
      obtain ⟨rfl, hbx2⟩ := hcut
      have hfin := below_to hwc hbx2
      go_wp2_with fail
      go_ret
      exact ⟨rfl, hfin⟩

set_option maxHeartbeats 1600000 in
theorem law_hold (a b c x y d : Int) (wa : (Lit.int .i64 a).wf = true) (wb : (Lit.int .i64 b).wf = true) (wc : (Lit.int .i64 c).wf = true) (wx : (Lit.int .i64 x).wf = true) (wy : (Lit.int .i64 y).wf = true) (wd : (Lit.int .i64 d).wf = true) (w : World) :
    Calls Try.prog 9 #[.agg #[.int .i64 a, .int .i64 b, .int .i64 c], .agg #[.int .i64 x, .int .i64 y, .int .i64 d]] w fun e w' => e = .returned (.bool true) ∧ Below w.heap.size w w' := by
  obtain ⟨ha, ha2⟩ := bounds_i64 wa
  obtain ⟨hb, hb2⟩ := bounds_i64 wb
  obtain ⟨hc, hc2⟩ := bounds_i64 wc
  obtain ⟨hx, hx2⟩ := bounds_i64 wx
  obtain ⟨hy, hy2⟩ := bounds_i64 wy
  obtain ⟨hd, hd2⟩ := bounds_i64 wd
  clear wa wb wc wx wy wd
  have HS := Lib.hid (fun W => spec_hold a b c x y d W ha ha2 hb hb2 hc hc2 hx hx2 hy hy2 hd hd2)
  have HI := Lib.hid (fun W => impl_hold a b c x y d W ha ha2 hb hb2 hc hc2 hx hx2 hy hy2 hd hd2)
  generalize holdH a b c x y d = r at *
  clear ha ha2 hb hb2 hc hc2 hx hx2 hy hy2 hd hd2
  have hw : Below w.heap.size w ((w.alloc (.cells #[.int .i64 a, .int .i64 b, .int .i64 c] 43)).alloc (.cells #[.int .i64 x, .int .i64 y, .int .i64 d] 47)) := below_bx2 (below_box _ _) _
  have hp := sixb w (.int .i64 a) (.int .i64 b) (.int .i64 c) (.int .i64 x) (.int .i64 y) (.int .i64 d) 43 47
  go_enter Try.func9, Try.ntmps9
  go_upto_region 1 with fail
  generalize (w.alloc (.cells #[.int .i64 a, .int .i64 b, .int .i64 c] 43)).alloc (.cells #[.int .i64 x, .int .i64 y, .int .i64 d] 47) = V at *
  obtain ⟨p, q⟩ := hp
  go_cut [5] from 7 to 11 (fun s5 wx => s5 = .bool r ∧ Below V.heap.size V wx)
  case first =>
    obtain ⟨p0, p1, p2⟩ := id p
    obtain ⟨q0, q1, q2⟩ := id q
    go_region_held3 (fun w' => w'.cell? ⟨w.heap.size, 0, none⟩ = some (.int .i64 a) ∧ w'.cell? ⟨w.heap.size, 1, none⟩ = some (.int .i64 b) ∧ w'.cell? ⟨w.heap.size, 2, none⟩ = some (.int .i64 c) ∧ w'.cell? ⟨w.heap.size + 1, 0, none⟩ = some (.int .i64 x) ∧ w'.cell? ⟨w.heap.size + 1, 1, none⟩ = some (.int .i64 y) ∧ w'.cell? ⟨w.heap.size + 1, 2, none⟩ = some (.int .i64 d))
      ((refine sixc ?_ p q; repeat (first | exact Below.refl _ _ | refine below_drw ?_ | refine below_to ?_ (by assumption))))
      (first | (go_at_call 31; refine (to_half _ _ _ _).mono ?_; rintro e w2 ⟨rfl, bl2⟩) | (go_at_call 35; refine (to_spot _ _ _ _).mono ?_; rintro e w2 ⟨rfl, bl2⟩) | (go_at_call 36; refine (HS.out _).mono ?_; rintro e w3 ⟨rfl, bl3⟩))
    all_goals
      go_wp2_with fail
      go_meet
      refine ⟨rfl, ?_⟩
      repeat (first | exact Below.refl _ _ | refine below_drw ?_ | refine below_to ?_ (by assumption))
  case rest =>
    obtain ⟨rfl, hbx⟩ := hcut
    have p' := three hbx p
    have q' := three hbx q
    have hwc := below_to hw hbx
    clear p q hw hbx
    go_upto_region 2 with fail
    go_cut [6] from 12 to 16 (fun s5 wx => s5 = .bool r ∧ Below wc.heap.size wc wx)
    case first =>
      obtain ⟨p0, p1, p2⟩ := id p'
      obtain ⟨q0, q1, q2⟩ := id q'
      go_region_held3 (fun w' => w'.cell? ⟨w.heap.size, 0, none⟩ = some (.int .i64 a) ∧ w'.cell? ⟨w.heap.size, 1, none⟩ = some (.int .i64 b) ∧ w'.cell? ⟨w.heap.size, 2, none⟩ = some (.int .i64 c) ∧ w'.cell? ⟨w.heap.size + 1, 0, none⟩ = some (.int .i64 x) ∧ w'.cell? ⟨w.heap.size + 1, 1, none⟩ = some (.int .i64 y) ∧ w'.cell? ⟨w.heap.size + 1, 2, none⟩ = some (.int .i64 d))
        ((refine sixc ?_ p' q'; repeat (first | exact Below.refl _ _ | refine below_drw ?_ | refine below_to ?_ (by assumption))))
        (first | (go_at_call 31; refine (to_half _ _ _ _).mono ?_; rintro e w2 ⟨rfl, bl2⟩) | (go_at_call 35; refine (to_spot _ _ _ _).mono ?_; rintro e w2 ⟨rfl, bl2⟩) | (go_at_call 21; refine (HI.out _).mono ?_; rintro e w3 ⟨rfl, bl3⟩))
      all_goals
        go_wp2_with fail
        go_meet
        refine ⟨rfl, ?_⟩
        repeat (first | exact Below.refl _ _ | refine below_drw ?_ | refine below_to ?_ (by assumption))
    case rest =>
      obtain ⟨rfl, hbx2⟩ := hcut
      have hfin := below_to hwc hbx2
      go_wp2_with fail
      go_ret
      exact ⟨rfl, hfin⟩

end Go.Proofs.Ytkodoedkdgldnaa
