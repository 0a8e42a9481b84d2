/- The walk of HalfWay's law. -/
import Derived.Test.YtbdehelcpfkcmaaHlf
namespace Go.Proofs.Ytbdehelcpfkcmaa
open Go.RowKit

/-- a spot that lies in a new block -/
def Lies3 (W : World) (x y d : Int) (v : Value) (wx : World) : Prop := ∃ g, v = .pointer (some ⟨g, 0, none⟩) ∧ W.heap.size ≤ g ∧ wx.heap[g]? = some (.cells #[.int .i64 x, .int .i64 y, .int .i64 d] 25 (0, 0)) ∧ Below W.heap.size W wx
theorem heap_set3 {w : World} {g : Nat} {x y z : Value} {T : TypeId} (a b c : Value) (h0 : w.heap[g]? = some (.cells #[x, y, z] T (0, 0))) : (((w.setCell ⟨g, 0, none⟩ a).setCell ⟨g, 1, none⟩ b).setCell ⟨g, 2, none⟩ c).heap[g]? = some (.cells #[a, b, c] T (0, 0)) := by
  have a0 := heap_setCell_same w g 0 _ T a h0
  have a1 := heap_setCell_same _ g 1 _ T b a0
  exact heap_setCell_same _ g 2 _ T c a1
theorem heap_bl {w w' : World} {g : Nat} {o : Obj} (hb : Below w.heap.size w w') (h : w.heap[g]? = some o) : w'.heap[g]? = some o := by
  rw [hb.block g (lt_of_block h)]; exact h
theorem at_new3 {U W : World} {Z : Obj} {g : Nat} (hb : Below (U.alloc Z).heap.size (U.alloc Z) W) (hg : g = U.heap.size) : W.heap[g]? = some Z := by
  subst hg; exact heap_bl hb (heap_alloc_new U Z)
theorem bcl3 {W w1 : World} (hb : Below W.heap.size W w1) : (∀ b o, b < W.heap.size → w1.cell? ⟨b, o, none⟩ = W.cell? ⟨b, o, none⟩) ∧ (∀ b o, b < W.heap.size → w1.frozen? ⟨b, o, none⟩ = W.frozen? ⟨b, o, none⟩) :=
  ⟨fun b o h => hb.cell (p := ⟨b, o, none⟩) h, fun b o h => hb.frozen (p := ⟨b, o, none⟩) h⟩

set_option maxHeartbeats 800000 in
theorem to_spot_w (x y d : Int) (w : World) :
    Calls Try.prog 10 #[.agg #[.int .i64 x, .int .i64 y, .int .i64 d]] w fun e w' => e = .returned (.agg #[.int .i64 x, .int .i64 y, .int .i64 d]) ∧ w' = ((w.alloc (.cells #[.int .i64 x, .int .i64 y, .int .i64 d] 23)).alloc (.cells #[.int .i64 x, .int .i64 y, .int .i64 d] 25)).alloc (.cells #[.int .i64 x, .int .i64 y, .int .i64 d] 25) := by
  go_enter Try.func10, Try.ntmps10
  go_wp2
  exact bodyPost_ret (v := .agg #[.int .i64 x, .int .i64 y, .int .i64 d]) (by simp [results, Try.results10, go_sem]) rfl ⟨rfl, rfl⟩

set_option maxHeartbeats 3200000 in
theorem law_half (a b c x y d : Int) (wa : (Lit.int .i64 a).wf = true) (wb : (Lit.int .i64 b).wf = true) (wc : (Lit.int .i64 c).wf = true) (wx : (Lit.int .i64 x).wf = true) (wy : (Lit.int .i64 y).wf = true) (wd : (Lit.int .i64 d).wf = true) (w : World) :
    Calls Try.prog 8 #[.agg #[.int .i64 a, .int .i64 b, .int .i64 c], .agg #[.int .i64 x, .int .i64 y, .int .i64 d]] w fun e w' => e = .returned (.bool true) ∧ Below w.heap.size w w' := by
  obtain ⟨ha, ha2⟩ := bounds_i64 wa
  obtain ⟨hb, hb2⟩ := bounds_i64 wb
  obtain ⟨hc, hc2⟩ := bounds_i64 wc
  obtain ⟨hx, hx2⟩ := bounds_i64 wx
  obtain ⟨hy, hy2⟩ := bounds_i64 wy
  obtain ⟨hd, hd2⟩ := bounds_i64 wd
  clear wa wb wc wx wy wd
  have HS := Lib.hid (fun W => spec_half a b c x y d W ha ha2 hb hb2 hc hc2 hx hx2 hy hy2 hd hd2)
  have HI := Lib.hid (fun W => impl_half a b c x y d W ha ha2 hb hb2 hc hc2 hx hx2 hy hy2 hd hd2)
  obtain ⟨X, Y, D, B, eA⟩ := halfS_ex a b c x y d
  rw [eA] at HS HI
  clear eA ha ha2 hb hb2 hc hc2 hx hx2 hy hy2 hd hd2
  have hw : Below w.heap.size w ((w.alloc (.cells #[.int .i64 a, .int .i64 b, .int .i64 c] 23)).alloc (.cells #[.int .i64 x, .int .i64 y, .int .i64 d] 23)) := below_bx2 (below_box _ _) _
  have hp := sixb w (.int .i64 a) (.int .i64 b) (.int .i64 c) (.int .i64 x) (.int .i64 y) (.int .i64 d) 23 23
  go_enter Try.func8, Try.ntmps8
  go_upto_region 1 with fail
  generalize (w.alloc (.cells #[.int .i64 a, .int .i64 b, .int .i64 c] 23)).alloc (.cells #[.int .i64 x, .int .i64 y, .int .i64 d] 23) = V at *
  obtain ⟨p, q⟩ := hp
  go_cut [5, 6] from 9 to 16 (fun s5 s6 wx => Lies3 V X Y D s5 wx ∧ s6 = .bool B)
  case first =>
    obtain ⟨p0, p1, p2⟩ := id p
    obtain ⟨q0, q1, q2⟩ := id q
    go_region_held3 (fun w' => w'.cell? ⟨w.heap.size, 0, none⟩ = some (.int .i64 a) ∧ w'.cell? ⟨w.heap.size, 1, none⟩ = some (.int .i64 b) ∧ w'.cell? ⟨w.heap.size, 2, none⟩ = some (.int .i64 c) ∧ w'.cell? ⟨w.heap.size + 1, 0, none⟩ = some (.int .i64 x) ∧ w'.cell? ⟨w.heap.size + 1, 1, none⟩ = some (.int .i64 y) ∧ w'.cell? ⟨w.heap.size + 1, 2, none⟩ = some (.int .i64 d))
      ((refine sixc ?_ p q; repeat (first | exact Below.refl _ _ | refine Below.setCell ?_ (by first | (simp; done) | (simp; omega)) _ | refine below_bx2 ?_ _ | refine below_drw ?_ | refine below_to ?_ (by assumption))))
      (first | (go_at_call 10; refine (to_spot_w _ _ _ _).mono ?_; rintro e w2 ⟨rfl, rfl⟩) | (go_at_call 21; refine (HS.out _).mono ?_; rintro e w3 ⟨rfl, bl3⟩; obtain ⟨hc3, hf3⟩ := bcl3 bl3; have hs3 := bl3.size; (try simp at hs3)))
    all_goals
      go_wp2_with fail
      go_meet
      refine ⟨⟨_, rfl, ?_, ?_, ?_⟩, rfl⟩
      · first | exact Nat.le_refl _ | omega | (simp; omega)
      · first
          | exact heap_alloc_new _ _
          | (refine heap_set3 (x := .int .i64 0) (y := .int .i64 0) (z := .int .i64 0) _ _ _ ?_
             apply at_new3 (Z := .cells #[.int .i64 0, .int .i64 0, .int .i64 0] 25)
             · repeat (first | exact Below.refl _ _ | refine below_bx2 ?_ _ | refine below_drw ?_ | refine below_to ?_ (by assumption))
             · first | rfl | (simp; done))
      · repeat (first | exact Below.refl _ _ | refine Below.setCell ?_ (by first | (simp; done) | (simp; omega)) _ | refine below_bx2 ?_ _ | refine below_drw ?_ | refine below_to ?_ (by assumption))
  case rest =>
    obtain ⟨⟨g, rfl, hg, hh, hbx⟩, rfl⟩ := hcut
    have hwc := below_to hw hbx
    have p' := three hbx p
    have q' := three hbx q
    have hz2 : w.heap.size + 1 < wc.heap.size := block_lt_of_cell q'.1
    have HH := Lib.hid hh
    clear hw hbx hh p q
    go_upto_region 2 with fail
    go_cut [7, 8] from 17 to 24 (fun s5 s6 wx => Lies3 wc X Y D s5 wx ∧ s6 = .bool B)
    case first =>
      obtain ⟨p0, p1, p2⟩ := id p'
      obtain ⟨q0, q1, q2⟩ := id q'
      go_region_held3 (fun w' => w'.cell? ⟨w.heap.size, 0, none⟩ = some (.int .i64 a) ∧ w'.cell? ⟨w.heap.size, 1, none⟩ = some (.int .i64 b) ∧ w'.cell? ⟨w.heap.size, 2, none⟩ = some (.int .i64 c) ∧ w'.cell? ⟨w.heap.size + 1, 0, none⟩ = some (.int .i64 x) ∧ w'.cell? ⟨w.heap.size + 1, 1, none⟩ = some (.int .i64 y) ∧ w'.cell? ⟨w.heap.size + 1, 2, none⟩ = some (.int .i64 d))
        ((refine sixc ?_ p' q'; repeat (first | exact Below.refl _ _ | refine Below.setCell ?_ (by first | (simp; done) | (simp; omega)) _ | refine below_bx2 ?_ _ | refine below_drw ?_ | refine below_to ?_ (by assumption))))
        (first | (go_at_call 10; refine (to_spot_w _ _ _ _).mono ?_; rintro e w2 ⟨rfl, rfl⟩) | (go_at_call 22; refine (HI.out _).mono ?_; rintro e w3 ⟨rfl, bl3⟩; obtain ⟨hc3, hf3⟩ := bcl3 bl3; have hs3 := bl3.size; (try simp at hs3)))
      all_goals
        go_wp2_with fail
        go_meet
        refine ⟨⟨_, rfl, ?_, ?_, ?_⟩, rfl⟩
        · first | exact Nat.le_refl _ | omega | (simp; omega)
        · first
            | exact heap_alloc_new _ _
            | (refine heap_set3 (x := .int .i64 0) (y := .int .i64 0) (z := .int .i64 0) _ _ _ ?_
               apply at_new3 (Z := .cells #[.int .i64 0, .int .i64 0, .int .i64 0] 25)
               · repeat (first | exact Below.refl _ _ | refine below_bx2 ?_ _ | refine below_drw ?_ | refine below_to ?_ (by assumption))
               · first | rfl | (simp; done))
        · repeat (first | exact Below.refl _ _ | refine Below.setCell ?_ (by first | (simp; done) | (simp; omega)) _ | refine below_bx2 ?_ _ | refine below_drw ?_ | refine below_to ?_ (by assumption))
    case rest =>
      obtain ⟨⟨g2, rfl, hg2, hh2, hbx2⟩, rfl⟩ := hcut
      have hh1 := heap_bl hbx2 HH.out
      have hfin := below_to hwc hbx2
      have a0 := cell_of_row _ g 0 _ _ _ hh1
      have a1 := cell_of_row _ g 1 _ _ _ hh1
      have a2 := cell_of_row _ g 2 _ _ _ hh1
      have b0 := cell_of_row _ g2 0 _ _ _ hh2
      have b1 := cell_of_row _ g2 1 _ _ _ hh2
      have b2 := cell_of_row _ g2 2 _ _ _ hh2
      simp at a0 a1 a2 b0 b1 b2
      clear hh1 hh2 HH HS HI hbx2 p' q'
      go_wp2_with fail
      refine (eq_spot X Y D _).mono ?_
      rintro e w9 ⟨rfl, hb9⟩
      go_wp2_with fail
      go_ret
      exact ⟨rfl, below_to hfin hb9⟩
end Go.Proofs.Ytbdehelcpfkcmaa
