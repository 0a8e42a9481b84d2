/- The contracts of both SameSpot functions over the translation, and the walk of their law. -/
import Derived.Test.YtbdehelcpfkcmaaSok
import Derived.Deep.RegionHeld3
import Derived.Deep.CutRange
import Derived.Deep.RegionWith
namespace Go.Proofs.Ytbdehelcpfkcmaa
open Go.RowKit
/-- the same spot -/
def sameS (a b c x y d : Int) : Bool := (a == x) && (b == y) && (c == d)
theorem below_bx2 {w w' : World} (h : Below w.heap.size w w') (o : Obj) : Below w.heap.size w (w'.alloc o) := h.trans ((below_box w' o).mono h.size)
theorem below_drw {w w' : World} (h : Below w.heap.size w w') : Below w.heap.size w w'.drew := below_drew h 1
set_option maxHeartbeats 800000 in
theorem spec_same (a b c x y d : Int) (w : World) :
    Calls Try.prog 15 #[.agg #[.int .i64 a, .int .i64 b, .int .i64 c], .agg #[.int .i64 x, .int .i64 y, .int .i64 d]] w fun e w' => e = .returned (.bool (sameS a b c x y d)) ∧ Below w.heap.size w w' := by
  go_enter Try.func15, Try.ntmps15
  go_wp2_with fail
  all_goals
    go_ret
    exact ⟨ret_bool2 (by unfold sameS; simp [*]), below_bx2 (below_box _ _) _⟩
set_option maxHeartbeats 800000 in
theorem impl_same (a b c x y d : Int) (w : World) :
    Calls Try.prog 16 #[.agg #[.int .i64 a, .int .i64 b, .int .i64 c], .agg #[.int .i64 x, .int .i64 y, .int .i64 d]] w fun e w' => e = .returned (.bool (sameS a b c x y d)) ∧ Below w.heap.size w w' := by
  go_enter Try.func16, Try.ntmps16
  go_wp2_with fail
  all_goals
    go_ret
    exact ⟨ret_bool2 (by unfold sameS; simp [*]), below_bx2 (below_box _ _) _⟩
theorem sixc {V X : World} {g h : Nat} {a b c x y d : Value} (hb : Below V.heap.size V X) (p : V.cell? ⟨g, 0, none⟩ = some a ∧ V.cell? ⟨g, 1, none⟩ = some b ∧ V.cell? ⟨g, 2, none⟩ = some c) (q : V.cell? ⟨h, 0, none⟩ = some x ∧ V.cell? ⟨h, 1, none⟩ = some y ∧ V.cell? ⟨h, 2, none⟩ = some d) :
    X.cell? ⟨g, 0, none⟩ = some a ∧ X.cell? ⟨g, 1, none⟩ = some b ∧ X.cell? ⟨g, 2, none⟩ = some c ∧ X.cell? ⟨h, 0, none⟩ = some x ∧ X.cell? ⟨h, 1, none⟩ = some y ∧ X.cell? ⟨h, 2, none⟩ = some d :=
  ⟨(three hb p).1, (three hb p).2.1, (three hb p).2.2, three hb q⟩
theorem sixb (w : World) (a b c x y d : Value) (T U : TypeId) : (((w.alloc (.cells #[a, b, c] T)).alloc (.cells #[x, y, d] U)).cell? ⟨w.heap.size, 0, none⟩ = some a ∧ ((w.alloc (.cells #[a, b, c] T)).alloc (.cells #[x, y, d] U)).cell? ⟨w.heap.size, 1, none⟩ = some b ∧ ((w.alloc (.cells #[a, b, c] T)).alloc (.cells #[x, y, d] U)).cell? ⟨w.heap.size, 2, none⟩ = some c) ∧
    (((w.alloc (.cells #[a, b, c] T)).alloc (.cells #[x, y, d] U)).cell? ⟨w.heap.size + 1, 0, none⟩ = some x ∧ ((w.alloc (.cells #[a, b, c] T)).alloc (.cells #[x, y, d] U)).cell? ⟨w.heap.size + 1, 1, none⟩ = some y ∧ ((w.alloc (.cells #[a, b, c] T)).alloc (.cells #[x, y, d] U)).cell? ⟨w.heap.size + 1, 2, none⟩ = some d) :=
  ⟨three (below_box _ _) (box3 w a b c T), by simp⟩

set_option maxHeartbeats 1600000 in
theorem law_same (a b c x y d : Int) (_ : (Lit.int .i64 a).wf = true) (_ : (Lit.int .i64 b).wf = true) (_ : (Lit.int .i64 c).wf = true) (_ : (Lit.int .i64 x).wf = true) (_ : (Lit.int .i64 y).wf = true) (_ : (Lit.int .i64 d).wf = true) (w : World) :
    Calls Try.prog 5 #[.agg #[.int .i64 a, .int .i64 b, .int .i64 c], .agg #[.int .i64 x, .int .i64 y, .int .i64 d]] w fun e w' => e = .returned (.bool true) ∧ Below w.heap.size w w' := by
  have hw : Below w.heap.size w ((w.alloc (.cells #[.int .i64 a, .int .i64 b, .int .i64 c] 23)).alloc (.cells #[.int .i64 x, .int .i64 y, .int .i64 d] 23)) := below_bx2 (below_box _ _) _
  have hp := sixb w (.int .i64 a) (.int .i64 b) (.int .i64 c) (.int .i64 x) (.int .i64 y) (.int .i64 d) 23 23
  generalize hP : sameS a b c x y d = r
  have HP := Lib.hid hP
  clear hP
  go_enter Try.func5, Try.ntmps5
  go_upto_region 1 with fail
  generalize (w.alloc (.cells #[.int .i64 a, .int .i64 b, .int .i64 c] 23)).alloc (.cells #[.int .i64 x, .int .i64 y, .int .i64 d] 23) = V at *
  obtain ⟨p, q⟩ := hp
  go_cut [5] from 7 to 11 (fun s5 wx => s5 = .bool r ∧ Below V.heap.size V wx)
  case first =>
    obtain ⟨p0, p1, p2⟩ := id p
    obtain ⟨q0, q1, q2⟩ := id q
    go_region_held3 (fun w' => w'.cell? ⟨w.heap.size, 0, none⟩ = some (.int .i64 a) ∧ w'.cell? ⟨w.heap.size, 1, none⟩ = some (.int .i64 b) ∧ w'.cell? ⟨w.heap.size, 2, none⟩ = some (.int .i64 c) ∧ w'.cell? ⟨w.heap.size + 1, 0, none⟩ = some (.int .i64 x) ∧ w'.cell? ⟨w.heap.size + 1, 1, none⟩ = some (.int .i64 y) ∧ w'.cell? ⟨w.heap.size + 1, 2, none⟩ = some (.int .i64 d))
      ((refine sixc ?_ p q; repeat (first | exact Below.refl _ _ | refine below_drw ?_ | refine below_to ?_ (by assumption))))
      (first | (go_at_call 10; refine (to_spot _ _ _ _).mono ?_; rintro e w2 ⟨rfl, bl2⟩) | (go_at_call 15; refine (spec_same a b c x y d _).mono ?_; rw [HP.out]; rintro e w3 ⟨rfl, bl3⟩))
    all_goals
      go_wp2_with fail
      go_meet
      refine ⟨rfl, ?_⟩
      repeat (first | exact Below.refl _ _ | refine below_drw ?_ | refine below_to ?_ (by assumption))
  case rest =>
    obtain ⟨rfl, hbx⟩ := hcut
    have p' := three hbx p
    have q' := three hbx q
    have hwc := below_to hw hbx
    clear p q hw hbx
    go_upto_region 2 with fail
    go_cut [6] from 12 to 16 (fun s5 wx => s5 = .bool r ∧ Below wc.heap.size wc wx)
    case first =>
      obtain ⟨p0, p1, p2⟩ := id p'
      obtain ⟨q0, q1, q2⟩ := id q'
      go_region_held3 (fun w' => w'.cell? ⟨w.heap.size, 0, none⟩ = some (.int .i64 a) ∧ w'.cell? ⟨w.heap.size, 1, none⟩ = some (.int .i64 b) ∧ w'.cell? ⟨w.heap.size, 2, none⟩ = some (.int .i64 c) ∧ w'.cell? ⟨w.heap.size + 1, 0, none⟩ = some (.int .i64 x) ∧ w'.cell? ⟨w.heap.size + 1, 1, none⟩ = some (.int .i64 y) ∧ w'.cell? ⟨w.heap.size + 1, 2, none⟩ = some (.int .i64 d))
        ((refine sixc ?_ p' q'; repeat (first | exact Below.refl _ _ | refine below_drw ?_ | refine below_to ?_ (by assumption))))
        (first | (go_at_call 10; refine (to_spot _ _ _ _).mono ?_; rintro e w2 ⟨rfl, bl2⟩) | (go_at_call 16; refine (impl_same a b c x y d _).mono ?_; rw [HP.out]; rintro e w3 ⟨rfl, bl3⟩))
      all_goals
        go_wp2_with fail
        go_meet
        refine ⟨rfl, ?_⟩
        repeat (first | exact Below.refl _ _ | refine below_drw ?_ | refine below_to ?_ (by assumption))
    case rest =>
      obtain ⟨rfl, hbx2⟩ := hcut
      have hfin := below_to hwc hbx2
      go_wp2_with fail
      go_ret
      exact ⟨rfl, hfin⟩
end Go.Proofs.Ytbdehelcpfkcmaa
