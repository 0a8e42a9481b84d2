/- The walk of TighterHalf's law. -/
import Derived.Test.YtkodoedkdgldnaaTig
namespace Go.Proofs.Ytkodoedkdgldnaa
open Go.RowKit

/-- a struct of three ints that lies in a new block -/
def LiesT (T : TypeId) (W : World) (x y d : Int) (v : Value) (wx : World) : Prop := ∃ g, v = .pointer (some ⟨g, 0, none⟩) ∧ W.heap.size ≤ g ∧ wx.heap[g]? = some (.cells #[.int .i64 x, .int .i64 y, .int .i64 d] T (0, 0)) ∧ Below W.heap.size W wx

set_option maxHeartbeats 800000 in
theorem to_half_w (x y d : Int) (w : World) :
    Calls Try.prog 31 #[.agg #[.int .i64 x, .int .i64 y, .int .i64 d]] w fun e w' => e = .returned (.agg #[.int .i64 x, .int .i64 y, .int .i64 d]) ∧ w' = ((w.alloc (.cells #[.int .i64 x, .int .i64 y, .int .i64 d] 43)).alloc (.cells #[.int .i64 x, .int .i64 y, .int .i64 d] 24)).alloc (.cells #[.int .i64 x, .int .i64 y, .int .i64 d] 24) := by
  go_enter Try.func31, Try.ntmps31
  go_wp2
  exact bodyPost_ret (v := .agg #[.int .i64 x, .int .i64 y, .int .i64 d]) (by simp [results, Try.results31, go_sem]) rfl ⟨rfl, rfl⟩

set_option maxHeartbeats 3200000 in
theorem law_tig (a b c x y d : Int) (wa : (Lit.int .i64 a).wf = true) (wb : (Lit.int .i64 b).wf = true) (wc : (Lit.int .i64 c).wf = true) (wx : (Lit.int .i64 x).wf = true) (wy : (Lit.int .i64 y).wf = true) (wd : (Lit.int .i64 d).wf = true) (w : World) :
    Calls Try.prog 14 #[.agg #[.int .i64 a, .int .i64 b, .int .i64 c], .agg #[.int .i64 x, .int .i64 y, .int .i64 d]] w fun e w' => e = .returned (.bool true) ∧ Below w.heap.size w w' := by
  obtain ⟨ha, ha2⟩ := bounds_i64 wa
  obtain ⟨hb, hb2⟩ := bounds_i64 wb
  obtain ⟨hc, hc2⟩ := bounds_i64 wc
  obtain ⟨hx, hx2⟩ := bounds_i64 wx
  obtain ⟨hy, hy2⟩ := bounds_i64 wy
  obtain ⟨hd, hd2⟩ := bounds_i64 wd
  clear wa wb wc wx wy wd
  have HS := Lib.hid (fun W => spec_tig a b c x y d W ha ha2 hb hb2 hc hc2 hx hx2 hy hy2 hd hd2)
  have HI := Lib.hid (fun W => impl_tig a b c x y d W ha ha2 hb hb2 hc hc2 hx hx2 hy hy2 hd hd2)
  obtain ⟨X, Y, D, eA⟩ := tigH_ex a b c x y d
  rw [eA] at HS HI
  clear eA ha ha2 hb hb2 hc hc2 hx hx2 hy hy2 hd hd2
  have hw : Below w.heap.size w ((w.alloc (.cells #[.int .i64 a, .int .i64 b, .int .i64 c] 43)).alloc (.cells #[.int .i64 x, .int .i64 y, .int .i64 d] 43)) := below_bx2 (below_box _ _) _
  have hp := sixb w (.int .i64 a) (.int .i64 b) (.int .i64 c) (.int .i64 x) (.int .i64 y) (.int .i64 d) 43 43
  go_enter Try.func14, Try.ntmps14
  go_upto_region 1 with fail
  generalize (w.alloc (.cells #[.int .i64 a, .int .i64 b, .int .i64 c] 43)).alloc (.cells #[.int .i64 x, .int .i64 y, .int .i64 d] 43) = V at *
  obtain ⟨p, q⟩ := hp
  go_cut [5] from 7 to 11 (fun s5 wx => LiesT 24 V X Y D s5 wx)
  case first =>
    obtain ⟨p0, p1, p2⟩ := id p
    obtain ⟨q0, q1, q2⟩ := id q
    go_region_held3 (fun w' => w'.cell? ⟨w.heap.size, 0, none⟩ = some (.int .i64 a) ∧ w'.cell? ⟨w.heap.size, 1, none⟩ = some (.int .i64 b) ∧ w'.cell? ⟨w.heap.size, 2, none⟩ = some (.int .i64 c) ∧ w'.cell? ⟨w.heap.size + 1, 0, none⟩ = some (.int .i64 x) ∧ w'.cell? ⟨w.heap.size + 1, 1, none⟩ = some (.int .i64 y) ∧ w'.cell? ⟨w.heap.size + 1, 2, none⟩ = some (.int .i64 d))
      ((refine sixc ?_ p q; repeat (first | exact Below.refl _ _ | refine Below.setCell ?_ (by first | (simp; done) | (simp; omega)) _ | refine below_bx2 ?_ _ | refine below_drw ?_ | refine below_to ?_ (by assumption))))
      (first | (go_at_call 31; refine (to_half_w _ _ _ _).mono ?_; rintro e w2 ⟨rfl, rfl⟩) | (go_at_call 42; refine (HS.out _).mono ?_; rintro e w3 ⟨rfl, bl3⟩; obtain ⟨hc3, hf3⟩ := bcl3 bl3; have hs3 := bl3.size; (try simp at hs3)))
    all_goals
      go_wp2_with fail
      go_meet
      refine ⟨_, rfl, ?_, ?_, ?_⟩
      · first | exact Nat.le_refl _ | omega | (simp; omega)
      · first
          | exact heap_alloc_new _ _
          | (refine heap_set3 (x := .int .i64 0) (y := .int .i64 0) (z := .int .i64 0) _ _ _ ?_
             apply at_new3 (Z := .cells #[.int .i64 0, .int .i64 0, .int .i64 0] 24)
             · repeat (first | exact Below.refl _ _ | refine below_bx2 ?_ _ | refine below_drw ?_ | refine below_to ?_ (by assumption))
             · first | rfl | (simp; done))
      · repeat (first | exact Below.refl _ _ | refine Below.setCell ?_ (by first | (simp; done) | (simp; omega)) _ | refine below_bx2 ?_ _ | refine below_drw ?_ | refine below_to ?_ (by assumption))
  case rest =>
    obtain ⟨g, rfl, hg, hh, hbx⟩ := hcut
    have hwc := below_to hw hbx
    have p' := three hbx p
    have q' := three hbx q
    have hz2 : w.heap.size + 1 < wc.heap.size := block_lt_of_cell q'.1
    have HH := Lib.hid hh
    clear hw hbx hh p q
    go_upto_region 2 with fail
    go_cut [6] from 12 to 16 (fun s5 wx => LiesT 24 wc X Y D s5 wx)
    case first =>
      obtain ⟨p0, p1, p2⟩ := id p'
      obtain ⟨q0, q1, q2⟩ := id q'
      go_region_held3 (fun w' => w'.cell? ⟨w.heap.size, 0, none⟩ = some (.int .i64 a) ∧ w'.cell? ⟨w.heap.size, 1, none⟩ = some (.int .i64 b) ∧ w'.cell? ⟨w.heap.size, 2, none⟩ = some (.int .i64 c) ∧ w'.cell? ⟨w.heap.size + 1, 0, none⟩ = some (.int .i64 x) ∧ w'.cell? ⟨w.heap.size + 1, 1, none⟩ = some (.int .i64 y) ∧ w'.cell? ⟨w.heap.size + 1, 2, none⟩ = some (.int .i64 d))
        ((refine sixc ?_ p' q'; repeat (first | exact Below.refl _ _ | refine Below.setCell ?_ (by first | (simp; done) | (simp; omega)) _ | refine below_bx2 ?_ _ | refine below_drw ?_ | refine below_to ?_ (by assumption))))
        (first | (go_at_call 31; refine (to_half_w _ _ _ _).mono ?_; rintro e w2 ⟨rfl, rfl⟩) | (go_at_call 29; refine (HI.out _).mono ?_; rintro e w3 ⟨rfl, bl3⟩; obtain ⟨hc3, hf3⟩ := bcl3 bl3; have hs3 := bl3.size; (try simp at hs3)))
      all_goals
        go_wp2_with fail
        go_meet
        refine ⟨_, rfl, ?_, ?_, ?_⟩
        · first | exact Nat.le_refl _ | omega | (simp; omega)
        · first
            | exact heap_alloc_new _ _
            | (refine heap_set3 (x := .int .i64 0) (y := .int .i64 0) (z := .int .i64 0) _ _ _ ?_
               apply at_new3 (Z := .cells #[.int .i64 0, .int .i64 0, .int .i64 0] 24)
               · repeat (first | exact Below.refl _ _ | refine below_bx2 ?_ _ | refine below_drw ?_ | refine below_to ?_ (by assumption))
               · first | rfl | (simp; done))
        · repeat (first | exact Below.refl _ _ | refine Below.setCell ?_ (by first | (simp; done) | (simp; omega)) _ | refine below_bx2 ?_ _ | refine below_drw ?_ | refine below_to ?_ (by assumption))
    case rest =>
      obtain ⟨g2, rfl, hg2, hh2, hbx2⟩ := hcut
      have hh1 := heap_bl hbx2 HH.out
      have hfin := below_to hwc hbx2
      have a0 := cell_of_row _ g 0 _ _ _ hh1
      have a1 := cell_of_row _ g 1 _ _ _ hh1
      have a2 := cell_of_row _ g 2 _ _ _ hh1
      have b0 := cell_of_row _ g2 0 _ _ _ hh2
      have b1 := cell_of_row _ g2 1 _ _ _ hh2
      have b2 := cell_of_row _ g2 2 _ _ _ hh2
      simp at a0 a1 a2 b0 b1 b2
      clear hh1 hh2 HH HS HI hbx2 p' q'
      go_wp2_with fail
      refine (eq_half X Y D _).mono ?_
      rintro e w9 ⟨rfl, hb9⟩
      go_wp2_with fail
      go_ret
      exact ⟨rfl, below_to hfin hb9⟩

end Go.Proofs.Ytkodoedkdgldnaa
