/- GrowAlong of the program over the translation. -/
import Derived.Test.YtibkmhmeoelpdaaEg
import Derived.Test.YtibkmhmeoelpdaaMz
import Derived.Test.YtibkmhmeoelpdaaCg
namespace Go.Proofs.Ytibkmhmeoelpdaa
open Go.RowKit Go.Shelf
open Geo (H3)

/-- whether GrowAlong's arguments are valid -/
def gwC (ps : List H3) (bx cy lo hi : Int) : Bool := inB bx (-100) 100 && inB cy (-100) 100 && inB lo (-1000) 1000 && inB hi lo 1000 && decide (ps.length ≤ 38) && rokB ps
/-- the directions in which a region does not grow -/
def gwa (bx cy : Int) : Int := cy.tdiv (Int.gcd bx cy)
def gwb (bx cy : Int) : Int := bx.tdiv (Int.gcd bx cy)
noncomputable def gwU (ps : List H3) (bx cy : Int) : List H3 := [tcH (-gwa bx cy) (gwb bx cy) ps, tcH (gwa bx cy) (-gwb bx cy) ps]
noncomputable def gwT (ps : List H3) (bx cy : Int) : Bool := tcB (-gwa bx cy) (gwb bx cy) ps && tcB (gwa bx cy) (-gwb bx cy) ps
noncomputable def gwB (ps : List H3) (bx cy lo hi : Int) : Bool := gwC ps bx cy lo hi && (decide (ps = []) || decide (bx = 0 ∧ cy = 0) || (gwT ps bx cy && mvB (grB bx cy lo hi) (grM bx cy lo hi) (gwU ps bx cy) ps))
noncomputable def gwL (ps : List H3) (bx cy lo hi : Int) : List H3 := if gwC ps bx cy lo hi = true then (if ps = [] ∨ (bx = 0 ∧ cy = 0) then ps else if gwT ps bx cy = true then mvL (grB bx cy lo hi) (grM bx cy lo hi) (gwU ps bx cy) ps else []) else []
theorem gw_no {ps : List H3} {bx cy lo hi : Int} (h : gwC ps bx cy lo hi = false) : gwL ps bx cy lo hi = [] ∧ gwB ps bx cy lo hi = false :=
  ⟨by unfold gwL; rw [if_neg (by rw [h]; simp)], by unfold gwB; rw [h]; rfl⟩
theorem gw_same {ps : List H3} {bx cy lo hi : Int} (h : gwC ps bx cy lo hi = true) (k : ps = [] ∨ (bx = 0 ∧ cy = 0)) : gwL ps bx cy lo hi = ps ∧ gwB ps bx cy lo hi = true :=
  ⟨by unfold gwL; rw [if_pos h, if_pos k], by unfold gwB; rw [h]; rcases k with k | k <;> simp [k]⟩
theorem gw_tno {ps : List H3} {bx cy lo hi : Int} (n : ps ≠ []) (z : ¬ (bx = 0 ∧ cy = 0)) (t : gwT ps bx cy = false) : gwL ps bx cy lo hi = [] ∧ gwB ps bx cy lo hi = false := by
  refine ⟨?_, by unfold gwB; rw [t]; simp [n, z]⟩
  unfold gwL
  split
  · rw [if_neg (fun h => h.elim n z), if_neg (by rw [t]; simp)]
  · rfl
theorem gw_yes {ps : List H3} {bx cy lo hi : Int} (h : gwC ps bx cy lo hi = true) (n : ps ≠ []) (z : ¬ (bx = 0 ∧ cy = 0)) (t : gwT ps bx cy = true) : gwL ps bx cy lo hi = mvL (grB bx cy lo hi) (grM bx cy lo hi) (gwU ps bx cy) ps ∧ gwB ps bx cy lo hi = mvB (grB bx cy lo hi) (grM bx cy lo hi) (gwU ps bx cy) ps :=
  ⟨by unfold gwL; rw [if_pos h, if_neg (fun h => h.elim n z), if_pos t], by unfold gwB; rw [h, t]; simp [n, z]⟩
theorem gw_len (ps : List H3) (bx cy lo hi : Int) : (gwL ps bx cy lo hi).length ≤ 40 := by
  unfold gwL
  split
  · rename_i h
    split
    · unfold gwC at h; simp only [Bool.and_eq_true, decide_eq_true_eq] at h; omega
    · split
      · exact mvL_len _ _ _ _
      · simp
  · simp
theorem td_in {x M : Int} {g : Nat} (h1 : -M ≤ x) (h2 : x ≤ M) : -M ≤ x.tdiv g ∧ x.tdiv g ≤ M := by
  have h : (x.tdiv g).natAbs ≤ x.natAbs := by rw [Int.natAbs_tdiv]; exact Nat.div_le_self _ _
  generalize x.tdiv g = y at *
  omega
theorem inB_of {x a b : Int} (h1 : a ≤ x) (h2 : x ≤ b) : inB x a b = true := by unfold inB; simp [h1, h2]
theorem of_inB {x a b : Int} (h : inB x a b = true) : a ≤ x ∧ x ≤ b := by unfold inB at h; simpa using h
theorem inB_cases (x a b : Int) : (inB x a b = true ∧ a ≤ x ∧ x ≤ b) ∨ (inB x a b = false ∧ (x < a ∨ b < x)) := by
  unfold inB
  by_cases h1 : a ≤ x
  · by_cases h2 : x ≤ b
    · exact .inl ⟨by simp [h1, h2], h1, h2⟩
    · exact .inr ⟨by simp [h2], by omega⟩
  · exact .inr ⟨by simp [h1], by omega⟩
set_option maxHeartbeats 800000 in
theorem impl_drv (bx cy : Int) (w : World) (b : Bool) (h : (inB bx (-100) 100 && inB cy (-100) 100) = b) :
    Calls Try.prog 90 #[.int .i64 bx, .int .i64 cy] w fun e w' => e = .returned (.bool b) ∧ w' = w := by
  subst h
  cases h1 : inB bx (-100) 100 with
  | false =>
    have HI := Lib.hid (fun W => in_impl_is bx (-100) 100 W false h1)
    clear h1
    go_enter Try.func90, Try.ntmps90
    go_wp2_with fail
    refine (HI.out _).mono ?_
    rintro e w1 ⟨rfl, rfl⟩
    go_wp2
    go_ret
    exact ⟨rfl, rfl⟩
  | true =>
    have HI := Lib.hid (fun W => in_impl_is bx (-100) 100 W true h1)
    have HJ := Lib.hid (fun W => in_impl_is cy (-100) 100 W _ rfl)
    clear h1
    go_enter Try.func90, Try.ntmps90
    go_wp2_with fail
    refine (HI.out _).mono ?_
    rintro e w1 ⟨rfl, rfl⟩
    go_wp2_with fail
    refine (HJ.out _).mono ?_
    rintro e w1 ⟨rfl, rfl⟩
    go_wp2
    go_ret
    exact ⟨rfl, rfl⟩
set_option maxHeartbeats 800000 in
theorem impl_rng (lo hi : Int) (w : World) (b : Bool) (h : (inB lo (-1000) 1000 && inB hi lo 1000) = b) :
    Calls Try.prog 80 #[.int .i64 lo, .int .i64 hi] w fun e w' => e = .returned (.bool b) ∧ w' = w := by
  by_cases h1 : -1000 ≤ lo
  · by_cases h2 : lo ≤ hi
    · by_cases h3 : hi ≤ 1000
      · have hb : b = true := by rw [← h, inB_of h1 (by omega), inB_of h2 h3]; rfl
        subst hb
        clear h
        have d1 : decide (-1000 ≤ lo) = true := decide_eq_true h1
        have d2 : decide (lo ≤ hi) = true := decide_eq_true h2
        have d3 : decide (hi ≤ 1000) = true := decide_eq_true h3
        go_enter Try.func80, Try.ntmps80
        go_wp2
        go_ret
        exact ⟨rfl, rfl⟩
      · have hb : b = false := by rw [← h]; unfold inB; simp [h3]
        subst hb
        clear h
        have d1 : decide (-1000 ≤ lo) = true := decide_eq_true h1
        have d2 : decide (lo ≤ hi) = true := decide_eq_true h2
        have d3 : decide (hi ≤ 1000) = false := decide_eq_false h3
        go_enter Try.func80, Try.ntmps80
        go_wp2
        go_ret
        exact ⟨rfl, rfl⟩
    · have hb : b = false := by rw [← h]; unfold inB; simp [h2]
      subst hb
      clear h
      have d1 : decide (-1000 ≤ lo) = true := decide_eq_true h1
      have d2 : decide (lo ≤ hi) = false := decide_eq_false h2
      go_enter Try.func80, Try.ntmps80
      go_wp2
      go_ret
      exact ⟨rfl, rfl⟩
  · have hb : b = false := by rw [← h]; unfold inB; simp [h1]
    subst hb
    clear h
    have d1 : decide (-1000 ≤ lo) = false := decide_eq_false h1
    go_enter Try.func80, Try.ntmps80
    go_wp2
    go_ret
    exact ⟨rfl, rfl⟩
theorem gcd_call (a b : Int) (w : World) (ha : -100 ≤ a) (ha2 : a ≤ 100) (hb : -100 ≤ b) (hb2 : b ≤ 100) :
    Calls Try.prog 70 #[.int .i64 a, .int .i64 b] w fun e w' => e = .returned (.int .i64 (Int.gcd a b)) ∧ Below w.heap.size w w' := by
  refine (impl_gcd a b w (by omega) (by omega) (by omega) (by omega)).mono ?_
  rintro e w' ⟨rfl, k, rfl⟩
  exact ⟨by rw [gcdR_of a b (by omega) (by omega)], below_drewN w k⟩
/-- a half plane lies in a box that is new since W -/
def BoxH (W : World) (a b c : Int) (v : Value) (wx : World) : Prop := ∃ g, v = .pointer (some ⟨g, 0, none⟩) ∧ W.heap.size ≤ g ∧ Blk wx g #[.int .i64 a, .int .i64 b, .int .i64 c] 60 ∧ Below W.heap.size W wx
theorem BoxH.last {W wC : World} {a b c : Int} (hb : Below W.heap.size W wC) : BoxH W a b c (.pointer (some ⟨wC.heap.size, 0, none⟩)) (wC.alloc (.cells #[.int .i64 a, .int .i64 b, .int .i64 c] 60)) :=
  ⟨wC.heap.size, rfl, hb.size, blk_new wC _ _ rfl, below_bx2 hb _⟩
theorem BoxH.early {W U wC : World} {a b c x y z : Int} (hU : Below (U.alloc (.cells #[.int .i64 x, .int .i64 y, .int .i64 z] 60)).heap.size (U.alloc (.cells #[.int .i64 x, .int .i64 y, .int .i64 z] 60)) wC) (hW : W.heap.size ≤ U.heap.size) (hb : Below W.heap.size W wC) :
    BoxH W a b c (.pointer (some ⟨U.heap.size, 0, none⟩)) (((wC.setCell ⟨U.heap.size, 0, none⟩ (.int .i64 a)).setCell ⟨U.heap.size, 1, none⟩ (.int .i64 b)).setCell ⟨U.heap.size, 2, none⟩ (.int .i64 c)) :=
  ⟨U.heap.size, rfl, hW, heap_setCell_same _ _ 2 _ _ _ (heap_setCell_same _ _ 1 _ _ _ (heap_setCell_same _ _ 0 _ _ _ ((blk_new U _ _ rfl).to hU))), ((hb.setCell hW _).setCell hW _).setCell hW _⟩
theorem hs_two (w : World) (x y : H3) (T : TypeId) : HsAt (w.alloc (.cells #[.int .i64 x.a, .int .i64 x.b, .int .i64 x.c, .int .i64 y.a, .int .i64 y.b, .int .i64 y.c] T)) (some ⟨w.heap.size, 0, none⟩) [x, y] := by
  have K := blk_new w #[.int .i64 x.a, .int .i64 x.b, .int .i64 x.c, .int .i64 y.a, .int .i64 y.b, .int .i64 y.c] T rfl
  intro i z hz
  match i with
  | 0 =>
    simp at hz; subst hz
    exact ⟨_, _, rfl, K.cell0 (i := 0) rfl, K.cell0 (i := 1) rfl, K.cell0 (i := 2) rfl⟩
  | 1 =>
    simp at hz; subst hz
    exact ⟨_, _, rfl, K.cell0 (i := 3) rfl, K.cell0 (i := 4) rfl, K.cell0 (i := 5) rfl⟩
  | i + 2 => simp at hz
theorem gr3c {V X : World} {p q r : Addr} {a b c : Value} (h : V.cell? p = some a) (k : V.cell? q = some b) (l : V.cell? r = some c) (hb : Below V.heap.size V X) : X.cell? p = some a ∧ X.cell? q = some b ∧ X.cell? r = some c := ⟨cell_to h hb, cell_to k hb, cell_to l hb⟩
end Go.Proofs.Ytibkmhmeoelpdaa
