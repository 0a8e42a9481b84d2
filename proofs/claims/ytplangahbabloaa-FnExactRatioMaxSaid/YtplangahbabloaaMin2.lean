/- The walks of the laws of RatioMin and RatioMax. -/
import Derived.Test.YtplangahbabloaaMin
import Derived.Deep.RegionHeld3
namespace Go.Proofs.Ytplangahbabloaa
open Go.RowKit

theorem bcell2 {W w1 : World} (hb : Below W.heap.size W w1) : (∀ b o, b < W.heap.size → w1.cell? ⟨b, o, none⟩ = W.cell? ⟨b, o, none⟩) ∧ (∀ b o, b < W.heap.size → w1.frozen? ⟨b, o, none⟩ = W.frozen? ⟨b, o, none⟩) :=
  ⟨fun b o h => hb.cell (p := ⟨b, o, none⟩) h, fun b o h => hb.frozen (p := ⟨b, o, none⟩) h⟩

set_option maxHeartbeats 800000 in
theorem eq_ratio (n d : Int) (w : World) :
    Calls Try.prog 23 #[.agg #[.int .i64 n, .int .i64 d], .agg #[.int .i64 n, .int .i64 d]] w fun e w' => e = .returned (.bool true) ∧ Below w.heap.size w w' := by
  go_enter Try.func23, Try.ntmps23
  go_wp2
  go_ret
  exact ⟨rfl, below_box2 (below_box _ _) _⟩

theorem below_tr {V W X : World} (h : Below V.heap.size V W) (k : Below W.heap.size W X) : Below V.heap.size V X := h.trans (k.mono h.size)
theorem four {V X : World} {g h : Nat} {a b c d : Value} (hb : Below V.heap.size V X) (p0 : V.cell? ⟨g, 0, none⟩ = some a) (p1 : V.cell? ⟨g, 1, none⟩ = some b) (p2 : V.cell? ⟨h, 0, none⟩ = some c) (p3 : V.cell? ⟨h, 1, none⟩ = some d) :
    X.cell? ⟨g, 0, none⟩ = some a ∧ X.cell? ⟨g, 1, none⟩ = some b ∧ X.cell? ⟨h, 0, none⟩ = some c ∧ X.cell? ⟨h, 1, none⟩ = some d :=
  ⟨by rw [hb.cell (block_lt_of_cell p0)]; exact p0, by rw [hb.cell (block_lt_of_cell p1)]; exact p1, by rw [hb.cell (block_lt_of_cell p2)]; exact p2, by rw [hb.cell (block_lt_of_cell p3)]; exact p3⟩
/-- a result that lies in a new block -/
def Lies (W : World) (n d : Int) (v : Value) (wx : World) : Prop := ∃ g, v = .pointer (some ⟨g, 0, none⟩) ∧ W.heap.size ≤ g ∧ wx.heap[g]? = some (.cells #[.int .i64 n, .int .i64 d] 27 (0, 0)) ∧ Below W.heap.size W wx

theorem heap_set2 {w : World} {g : Nat} {x y : Value} {T : TypeId} (a b : Value) (h0 : w.heap[g]? = some (.cells #[x, y] T (0, 0))) : ((w.setCell ⟨g, 0, none⟩ a).setCell ⟨g, 1, none⟩ b).heap[g]? = some (.cells #[a, b] T (0, 0)) := by
  have a0 := heap_setCell_same w g 0 _ T a h0
  exact heap_setCell_same _ g 1 _ T b a0
theorem at_new {U W : World} {Z : Obj} {g : Nat} (hb : Below (U.alloc Z).heap.size (U.alloc Z) W) (hg : g = U.heap.size) : W.heap[g]? = some Z := by
  subst hg; exact heap_below hb (heap_alloc_new U Z)

set_option maxHeartbeats 1600000 in
theorem law_min (a b c d : Int) (wa : (Lit.int .i64 a).wf = true) (wb : (Lit.int .i64 b).wf = true) (wc : (Lit.int .i64 c).wf = true) (wd : (Lit.int .i64 d).wf = true) (w : World) :
    Calls Try.prog 8 #[.agg #[.int .i64 a, .int .i64 b], .agg #[.int .i64 c, .int .i64 d]] w fun e w' => e = .returned (.bool true) ∧ Below w.heap.size w w' := by
  obtain ⟨ha, ha2⟩ := bounds_i64 wa
  obtain ⟨hb, hb2⟩ := bounds_i64 wb
  obtain ⟨hc, hc2⟩ := bounds_i64 wc
  obtain ⟨hd, hd2⟩ := bounds_i64 wd
  clear wa wb wc wd
  have hw : Below w.heap.size w ((w.alloc (.cells #[.int .i64 a, .int .i64 b] 25)).alloc (.cells #[.int .i64 c, .int .i64 d] 25)) := below_box2 (below_box _ _) _
  generalize hP : minP a b c d = P
  have HP := Lib.hid hP
  clear hP
  go_enter Try.func8, Try.ntmps8
  go_upto_region 1 with fail
  obtain ⟨p0, p1, p2, p3, hz⟩ := boxed2 (Below.refl ((w.alloc (.cells #[.int .i64 a, .int .i64 b] 25)).alloc (.cells #[.int .i64 c, .int .i64 d] 25)).heap.size ((w.alloc (.cells #[.int .i64 a, .int .i64 b] 25)).alloc (.cells #[.int .i64 c, .int .i64 d] 25)))
  generalize (w.alloc (.cells #[.int .i64 a, .int .i64 b] 25)).alloc (.cells #[.int .i64 c, .int .i64 d] 25) = V at *
  go_cut [5] from 7 to 11 (fun s5 wx => Lies V P.1 P.2 s5 wx)
  case first =>
    go_region_held3 (fun w' => w'.cell? ⟨w.heap.size, 0, none⟩ = some (.int .i64 a) ∧ w'.cell? ⟨w.heap.size, 1, none⟩ = some (.int .i64 b) ∧ w'.cell? ⟨w.heap.size + 1, 0, none⟩ = some (.int .i64 c) ∧ w'.cell? ⟨w.heap.size + 1, 1, none⟩ = some (.int .i64 d)) ((refine four ?_ p0 p1 p2 p3; repeat (first | exact Below.refl _ _ | refine Below.setCell ?_ (by first | (simp; done) | (simp; omega)) _ | refine below_box2 ?_ _ | refine below_drew1 ?_ | refine below_tr ?_ bl2)))
      (first | (go_at_call 13; refine (to_ratio_w _ _ _).mono ?_; rintro e w1 ⟨rfl, rfl⟩) | (go_at_call 21; refine (spec_min a b c d _ ha ha2 hb hb2 hc hc2 hd hd2).mono ?_; rw [HP.out]; rintro e w2 ⟨rfl, bl2⟩; obtain ⟨hc1, hf1⟩ := bcell2 bl2; have hs1 := bl2.size; simp at hs1))
    all_goals
      go_wp2_with fail
      go_meet
      refine ⟨_, rfl, ?_, ?_, ?_⟩
      · first | exact Nat.le_refl _ | omega | (simp; omega)
      · first
          | exact heap_alloc_new _ _
          | (refine heap_set2 (x := .int .i64 0) (y := .int .i64 0) _ _ ?_
             apply at_new (Z := .cells #[.int .i64 0, .int .i64 0] 27)
             · repeat (first | exact Below.refl _ _ | refine below_box2 ?_ _ | refine below_drew1 ?_ | refine below_tr ?_ bl2)
             · first | rfl | (simp; done))
      · repeat (first | exact Below.refl _ _ | refine Below.setCell ?_ (by first | (simp; done) | (simp; omega)) _ | refine below_box2 ?_ _ | refine below_drew1 ?_ | refine below_tr ?_ bl2)
  case rest =>
    obtain ⟨g, rfl, hg, hh, hbx⟩ := hcut
    have hwc := below_tr hw hbx
    obtain ⟨q0, q1, q2, q3⟩ := four hbx p0 p1 p2 p3
    have hz2 := Nat.lt_of_lt_of_le hz hbx.size
    have HH := Lib.hid hh
    clear p0 p1 p2 p3 hw hbx hz hh
    have p0 := q0
    have p1 := q1
    have p2 := q2
    have p3 := q3
    clear q0 q1 q2 q3
    go_upto_region 2 with fail
    go_cut [6] from 12 to 16 (fun s5 wx => Lies wc P.1 P.2 s5 wx)
    case first =>
      go_region_held3 (fun w' => w'.cell? ⟨w.heap.size, 0, none⟩ = some (.int .i64 a) ∧ w'.cell? ⟨w.heap.size, 1, none⟩ = some (.int .i64 b) ∧ w'.cell? ⟨w.heap.size + 1, 0, none⟩ = some (.int .i64 c) ∧ w'.cell? ⟨w.heap.size + 1, 1, none⟩ = some (.int .i64 d)) ((refine four ?_ p0 p1 p2 p3; repeat (first | exact Below.refl _ _ | refine Below.setCell ?_ (by first | (simp; done) | (simp; omega)) _ | refine below_box2 ?_ _ | refine below_drew1 ?_ | refine below_tr ?_ bl2)))
        (first | (go_at_call 13; refine (to_ratio_w _ _ _).mono ?_; rintro e w1 ⟨rfl, rfl⟩) | (go_at_call 22; refine (impl_min a b c d _ ha ha2 hb hb2 hc hc2 hd hd2).mono ?_; rw [HP.out]; rintro e w2 ⟨rfl, bl2⟩; obtain ⟨hc1, hf1⟩ := bcell2 bl2; have hs1 := bl2.size; simp at hs1))
      all_goals
        go_wp2_with fail
        go_meet
        refine ⟨_, rfl, ?_, ?_, ?_⟩
        · first | exact Nat.le_refl _ | omega | (simp; omega)
        · first
            | exact heap_alloc_new _ _
            | (refine heap_set2 (x := .int .i64 0) (y := .int .i64 0) _ _ ?_
               apply at_new (Z := .cells #[.int .i64 0, .int .i64 0] 27)
               · repeat (first | exact Below.refl _ _ | refine below_box2 ?_ _ | refine below_drew1 ?_ | refine below_tr ?_ bl2)
               · first | rfl | (simp; done))
        · repeat (first | exact Below.refl _ _ | refine Below.setCell ?_ (by first | (simp; done) | (simp; omega)) _ | refine below_box2 ?_ _ | refine below_drew1 ?_ | refine below_tr ?_ bl2)
    case rest =>
      obtain ⟨g2, rfl, hg2, hh2, hbx2⟩ := hcut
      have hh1 := heap_below hbx2 HH.out
      have hfin := below_tr hwc hbx2
      have a0 := cell_of_row _ g 0 _ _ _ hh1
      have a1 := cell_of_row _ g 1 _ _ _ hh1
      have a2 := cell_of_row _ g2 0 _ _ _ hh2
      have a3 := cell_of_row _ g2 1 _ _ _ hh2
      simp at a0 a1 a2 a3
      clear hh1 hh2 HH HP hbx2 p0 p1 p2 p3
      go_wp2_with fail
      refine (eq_ratio P.1 P.2 _).mono ?_
      rintro e w9 ⟨rfl, hb9⟩
      go_wp2_with fail
      go_ret
      exact ⟨rfl, below_tr hfin hb9⟩

set_option maxHeartbeats 1600000 in
theorem law_max (a b c d : Int) (wa : (Lit.int .i64 a).wf = true) (wb : (Lit.int .i64 b).wf = true) (wc : (Lit.int .i64 c).wf = true) (wd : (Lit.int .i64 d).wf = true) (w : World) :
    Calls Try.prog 9 #[.agg #[.int .i64 a, .int .i64 b], .agg #[.int .i64 c, .int .i64 d]] w fun e w' => e = .returned (.bool true) ∧ Below w.heap.size w w' := by
  obtain ⟨ha, ha2⟩ := bounds_i64 wa
  obtain ⟨hb, hb2⟩ := bounds_i64 wb
  obtain ⟨hc, hc2⟩ := bounds_i64 wc
  obtain ⟨hd, hd2⟩ := bounds_i64 wd
  clear wa wb wc wd
  have hw : Below w.heap.size w ((w.alloc (.cells #[.int .i64 a, .int .i64 b] 25)).alloc (.cells #[.int .i64 c, .int .i64 d] 25)) := below_box2 (below_box _ _) _
  generalize hP : maxP a b c d = P
  have HP := Lib.hid hP
  clear hP
  go_enter Try.func9, Try.ntmps9
  go_upto_region 1 with fail
  obtain ⟨p0, p1, p2, p3, hz⟩ := boxed2 (Below.refl ((w.alloc (.cells #[.int .i64 a, .int .i64 b] 25)).alloc (.cells #[.int .i64 c, .int .i64 d] 25)).heap.size ((w.alloc (.cells #[.int .i64 a, .int .i64 b] 25)).alloc (.cells #[.int .i64 c, .int .i64 d] 25)))
  generalize (w.alloc (.cells #[.int .i64 a, .int .i64 b] 25)).alloc (.cells #[.int .i64 c, .int .i64 d] 25) = V at *
  go_cut [5] from 7 to 11 (fun s5 wx => Lies V P.1 P.2 s5 wx)
  case first =>
    go_region_held3 (fun w' => w'.cell? ⟨w.heap.size, 0, none⟩ = some (.int .i64 a) ∧ w'.cell? ⟨w.heap.size, 1, none⟩ = some (.int .i64 b) ∧ w'.cell? ⟨w.heap.size + 1, 0, none⟩ = some (.int .i64 c) ∧ w'.cell? ⟨w.heap.size + 1, 1, none⟩ = some (.int .i64 d)) ((refine four ?_ p0 p1 p2 p3; repeat (first | exact Below.refl _ _ | refine Below.setCell ?_ (by first | (simp; done) | (simp; omega)) _ | refine below_box2 ?_ _ | refine below_drew1 ?_ | refine below_tr ?_ bl2)))
      (first | (go_at_call 13; refine (to_ratio_w _ _ _).mono ?_; rintro e w1 ⟨rfl, rfl⟩) | (go_at_call 24; refine (spec_max a b c d _ ha ha2 hb hb2 hc hc2 hd hd2).mono ?_; rw [HP.out]; rintro e w2 ⟨rfl, bl2⟩; obtain ⟨hc1, hf1⟩ := bcell2 bl2; have hs1 := bl2.size; simp at hs1))
    all_goals
      go_wp2_with fail
      go_meet
      refine ⟨_, rfl, ?_, ?_, ?_⟩
      · first | exact Nat.le_refl _ | omega | (simp; omega)
      · first
          | exact heap_alloc_new _ _
          | (refine heap_set2 (x := .int .i64 0) (y := .int .i64 0) _ _ ?_
             apply at_new (Z := .cells #[.int .i64 0, .int .i64 0] 27)
             · repeat (first | exact Below.refl _ _ | refine below_box2 ?_ _ | refine below_drew1 ?_ | refine below_tr ?_ bl2)
             · first | rfl | (simp; done))
      · repeat (first | exact Below.refl _ _ | refine Below.setCell ?_ (by first | (simp; done) | (simp; omega)) _ | refine below_box2 ?_ _ | refine below_drew1 ?_ | refine below_tr ?_ bl2)
  case rest =>
    obtain ⟨g, rfl, hg, hh, hbx⟩ := hcut
    have hwc := below_tr hw hbx
    obtain ⟨q0, q1, q2, q3⟩ := four hbx p0 p1 p2 p3
    have hz2 := Nat.lt_of_lt_of_le hz hbx.size
    have HH := Lib.hid hh
    clear p0 p1 p2 p3 hw hbx hz hh
    have p0 := q0
    have p1 := q1
    have p2 := q2
    have p3 := q3
    clear q0 q1 q2 q3
    go_upto_region 2 with fail
    go_cut [6] from 12 to 16 (fun s5 wx => Lies wc P.1 P.2 s5 wx)
    case first =>
      go_region_held3 (fun w' => w'.cell? ⟨w.heap.size, 0, none⟩ = some (.int .i64 a) ∧ w'.cell? ⟨w.heap.size, 1, none⟩ = some (.int .i64 b) ∧ w'.cell? ⟨w.heap.size + 1, 0, none⟩ = some (.int .i64 c) ∧ w'.cell? ⟨w.heap.size + 1, 1, none⟩ = some (.int .i64 d)) ((refine four ?_ p0 p1 p2 p3; repeat (first | exact Below.refl _ _ | refine Below.setCell ?_ (by first | (simp; done) | (simp; omega)) _ | refine below_box2 ?_ _ | refine below_drew1 ?_ | refine below_tr ?_ bl2)))
        (first | (go_at_call 13; refine (to_ratio_w _ _ _).mono ?_; rintro e w1 ⟨rfl, rfl⟩) | (go_at_call 25; refine (impl_max a b c d _ ha ha2 hb hb2 hc hc2 hd hd2).mono ?_; rw [HP.out]; rintro e w2 ⟨rfl, bl2⟩; obtain ⟨hc1, hf1⟩ := bcell2 bl2; have hs1 := bl2.size; simp at hs1))
      all_goals
        go_wp2_with fail
        go_meet
        refine ⟨_, rfl, ?_, ?_, ?_⟩
        · first | exact Nat.le_refl _ | omega | (simp; omega)
        · first
            | exact heap_alloc_new _ _
            | (refine heap_set2 (x := .int .i64 0) (y := .int .i64 0) _ _ ?_
               apply at_new (Z := .cells #[.int .i64 0, .int .i64 0] 27)
               · repeat (first | exact Below.refl _ _ | refine below_box2 ?_ _ | refine below_drew1 ?_ | refine below_tr ?_ bl2)
               · first | rfl | (simp; done))
        · repeat (first | exact Below.refl _ _ | refine Below.setCell ?_ (by first | (simp; done) | (simp; omega)) _ | refine below_box2 ?_ _ | refine below_drew1 ?_ | refine below_tr ?_ bl2)
    case rest =>
      obtain ⟨g2, rfl, hg2, hh2, hbx2⟩ := hcut
      have hh1 := heap_below hbx2 HH.out
      have hfin := below_tr hwc hbx2
      have a0 := cell_of_row _ g 0 _ _ _ hh1
      have a1 := cell_of_row _ g 1 _ _ _ hh1
      have a2 := cell_of_row _ g2 0 _ _ _ hh2
      have a3 := cell_of_row _ g2 1 _ _ _ hh2
      simp at a0 a1 a2 a3
      clear hh1 hh2 HH HP hbx2 p0 p1 p2 p3
      go_wp2_with fail
      refine (eq_ratio P.1 P.2 _).mono ?_
      rintro e w9 ⟨rfl, hb9⟩
      go_wp2_with fail
      go_ret
      exact ⟨rfl, below_tr hfin hb9⟩

end Go.Proofs.Ytplangahbabloaa
