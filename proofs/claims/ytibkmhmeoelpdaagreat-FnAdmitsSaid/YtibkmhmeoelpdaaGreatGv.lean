/- GrowAlong of the program over the translation. GrowAlong's half planes of the model over the translation. GrowAlong of the model over the translation. -/
import Derived.Test.YtibkmhmeoelpdaaGreatEs
import Derived.Test.YtibkmhmeoelpdaaGreatMz
import Derived.Test.YtibkmhmeoelpdaaGreatCg
namespace Go.Proofs.YtibkmhmeoelpdaaGreat
open Go.RowKit Go.Shelf
open Geo (H3)

/-- whether GrowAlong's arguments are valid -/
def gwC (ps : List H3) (bx cy lo hi : Int) : Bool := inB bx (-100) 100 && inB cy (-100) 100 && inB lo (-1000) 1000 && inB hi lo 1000 && decide (ps.length ≤ 38) && rokB ps
/-- the directions in which a region does not grow -/
def gwa (bx cy : Int) : Int := cy.tdiv (Int.gcd bx cy)
def gwb (bx cy : Int) : Int := bx.tdiv (Int.gcd bx cy)
noncomputable def gwU (ps : List H3) (bx cy : Int) : List H3 := [tcH (-gwa bx cy) (gwb bx cy) ps, tcH (gwa bx cy) (-gwb bx cy) ps]
noncomputable def gwT (ps : List H3) (bx cy : Int) : Bool := tcB (-gwa bx cy) (gwb bx cy) ps && tcB (gwa bx cy) (-gwb bx cy) ps
noncomputable def gwB (ps : List H3) (bx cy lo hi : Int) : Bool := gwC ps bx cy lo hi && (decide (ps = []) || decide (bx = 0 ∧ cy = 0) || (gwT ps bx cy && mvB (grB bx cy lo hi) (grM bx cy lo hi) (gwU ps bx cy) ps))
noncomputable def gwL (ps : List H3) (bx cy lo hi : Int) : List H3 := if gwC ps bx cy lo hi = true then (if ps = [] ∨ (bx = 0 ∧ cy = 0) then ps else if gwT ps bx cy = true then mvL (grB bx cy lo hi) (grM bx cy lo hi) (gwU ps bx cy) ps else []) else []
theorem gw_no {ps : List H3} {bx cy lo hi : Int} (h : gwC ps bx cy lo hi = false) : gwL ps bx cy lo hi = [] ∧ gwB ps bx cy lo hi = false :=
  ⟨by unfold gwL; rw [if_neg (by rw [h]; simp)], by unfold gwB; rw [h]; rfl⟩
theorem gw_same {ps : List H3} {bx cy lo hi : Int} (h : gwC ps bx cy lo hi = true) (k : ps = [] ∨ (bx = 0 ∧ cy = 0)) : gwL ps bx cy lo hi = ps ∧ gwB ps bx cy lo hi = true :=
  ⟨by unfold gwL; rw [if_pos h, if_pos k], by unfold gwB; rw [h]; rcases k with k | k <;> simp [k]⟩
theorem gw_tno {ps : List H3} {bx cy lo hi : Int} (n : ps ≠ []) (z : ¬ (bx = 0 ∧ cy = 0)) (t : gwT ps bx cy = false) : gwL ps bx cy lo hi = [] ∧ gwB ps bx cy lo hi = false := by
  refine ⟨?_, by unfold gwB; rw [t]; simp [n, z]⟩
  unfold gwL
  split
  · rw [if_neg (fun h => h.elim n z), if_neg (by rw [t]; simp)]
  · rfl
theorem gw_yes {ps : List H3} {bx cy lo hi : Int} (h : gwC ps bx cy lo hi = true) (n : ps ≠ []) (z : ¬ (bx = 0 ∧ cy = 0)) (t : gwT ps bx cy = true) : gwL ps bx cy lo hi = mvL (grB bx cy lo hi) (grM bx cy lo hi) (gwU ps bx cy) ps ∧ gwB ps bx cy lo hi = mvB (grB bx cy lo hi) (grM bx cy lo hi) (gwU ps bx cy) ps :=
  ⟨by unfold gwL; rw [if_pos h, if_neg (fun h => h.elim n z), if_pos t], by unfold gwB; rw [h, t]; simp [n, z]⟩
theorem gw_len (ps : List H3) (bx cy lo hi : Int) : (gwL ps bx cy lo hi).length ≤ 40 := by
  unfold gwL
  split
  · rename_i h
    split
    · unfold gwC at h; simp only [Bool.and_eq_true, decide_eq_true_eq] at h; omega
    · split
      · exact mvL_len _ _ _ _
      · simp
  · simp
theorem td_in {x M : Int} {g : Nat} (h1 : -M ≤ x) (h2 : x ≤ M) : -M ≤ x.tdiv g ∧ x.tdiv g ≤ M := by
  have h : (x.tdiv g).natAbs ≤ x.natAbs := by rw [Int.natAbs_tdiv]; exact Nat.div_le_self _ _
  generalize x.tdiv g = y at *
  omega
theorem inB_of {x a b : Int} (h1 : a ≤ x) (h2 : x ≤ b) : inB x a b = true := by unfold inB; simp [h1, h2]
theorem of_inB {x a b : Int} (h : inB x a b = true) : a ≤ x ∧ x ≤ b := by unfold inB at h; simpa using h
set_option maxHeartbeats 800000 in
theorem impl_drv (bx cy : Int) (w : World) (b : Bool) (h : (inB bx (-100) 100 && inB cy (-100) 100) = b) :
    Calls Tryz.prog 116 #[.int .i64 bx, .int .i64 cy] w fun e w' => e = .returned (.bool b) ∧ w' = w := by
  subst h
  cases h1 : inB bx (-100) 100 with
  | false =>
    have HI := Lib.hid (fun W => in_impl_is bx (-100) 100 W false h1)
    clear h1
    go_enter Tryz.func116, Tryz.ntmps116
    go_wp2_with fail
    refine (HI.out _).mono ?_
    rintro e w1 ⟨rfl, rfl⟩
    go_wp2
    go_ret
    exact ⟨rfl, rfl⟩
  | true =>
    have HI := Lib.hid (fun W => in_impl_is bx (-100) 100 W true h1)
    have HJ := Lib.hid (fun W => in_impl_is cy (-100) 100 W _ rfl)
    clear h1
    go_enter Tryz.func116, Tryz.ntmps116
    go_wp2_with fail
    refine (HI.out _).mono ?_
    rintro e w1 ⟨rfl, rfl⟩
    go_wp2_with fail
    refine (HJ.out _).mono ?_
    rintro e w1 ⟨rfl, rfl⟩
    go_wp2
    go_ret
    exact ⟨rfl, rfl⟩
set_option maxHeartbeats 800000 in
theorem impl_rng (lo hi : Int) (w : World) (b : Bool) (h : (inB lo (-1000) 1000 && inB hi lo 1000) = b) :
    Calls Tryz.prog 61 #[.int .i64 lo, .int .i64 hi] w fun e w' => e = .returned (.bool b) ∧ w' = w := by
  by_cases h1 : -1000 ≤ lo
  · by_cases h2 : lo ≤ hi
    · by_cases h3 : hi ≤ 1000
      · have hb : b = true := by rw [← h, inB_of h1 (by omega), inB_of h2 h3]; rfl
        subst hb
        clear h
        have d1 : decide (-1000 ≤ lo) = true := decide_eq_true h1
        have d2 : decide (lo ≤ hi) = true := decide_eq_true h2
        have d3 : decide (hi ≤ 1000) = true := decide_eq_true h3
        go_enter Tryz.func61, Tryz.ntmps61
        go_wp2
        go_ret
        exact ⟨rfl, rfl⟩
      · have hb : b = false := by rw [← h]; unfold inB; simp [h3]
        subst hb
        clear h
        have d1 : decide (-1000 ≤ lo) = true := decide_eq_true h1
        have d2 : decide (lo ≤ hi) = true := decide_eq_true h2
        have d3 : decide (hi ≤ 1000) = false := decide_eq_false h3
        go_enter Tryz.func61, Tryz.ntmps61
        go_wp2
        go_ret
        exact ⟨rfl, rfl⟩
    · have hb : b = false := by rw [← h]; unfold inB; simp [h2]
      subst hb
      clear h
      have d1 : decide (-1000 ≤ lo) = true := decide_eq_true h1
      have d2 : decide (lo ≤ hi) = false := decide_eq_false h2
      go_enter Tryz.func61, Tryz.ntmps61
      go_wp2
      go_ret
      exact ⟨rfl, rfl⟩
  · have hb : b = false := by rw [← h]; unfold inB; simp [h1]
    subst hb
    clear h
    have d1 : decide (-1000 ≤ lo) = false := decide_eq_false h1
    go_enter Tryz.func61, Tryz.ntmps61
    go_wp2
    go_ret
    exact ⟨rfl, rfl⟩
theorem gcd_call (a b : Int) (w : World) (ha : -100 ≤ a) (ha2 : a ≤ 100) (hb : -100 ≤ b) (hb2 : b ≤ 100) :
    Calls Tryz.prog 69 #[.int .i64 a, .int .i64 b] w fun e w' => e = .returned (.int .i64 (Int.gcd a b)) ∧ Below w.heap.size w w' := by
  refine (impl_gcd a b w (by omega) (by omega) (by omega) (by omega)).mono ?_
  rintro e w' ⟨rfl, k, rfl⟩
  exact ⟨by rw [gcdR_of a b (by omega) (by omega)], below_drewN w k⟩
/-- a half plane lies in a box that is new since W -/
def BoxH (W : World) (a b c : Int) (v : Value) (wx : World) : Prop := ∃ g, v = .pointer (some ⟨g, 0, none⟩) ∧ W.heap.size ≤ g ∧ Blk wx g #[.int .i64 a, .int .i64 b, .int .i64 c] 104 ∧ Below W.heap.size W wx
theorem BoxH.last {W wC : World} {a b c : Int} (hb : Below W.heap.size W wC) : BoxH W a b c (.pointer (some ⟨wC.heap.size, 0, none⟩)) (wC.alloc (.cells #[.int .i64 a, .int .i64 b, .int .i64 c] 104)) :=
  ⟨wC.heap.size, rfl, hb.size, blk_new wC _ _ rfl, below_bx2 hb _⟩
theorem BoxH.early {W U wC : World} {a b c x y z : Int} (hU : Below (U.alloc (.cells #[.int .i64 x, .int .i64 y, .int .i64 z] 104)).heap.size (U.alloc (.cells #[.int .i64 x, .int .i64 y, .int .i64 z] 104)) wC) (hW : W.heap.size ≤ U.heap.size) (hb : Below W.heap.size W wC) :
    BoxH W a b c (.pointer (some ⟨U.heap.size, 0, none⟩)) (((wC.setCell ⟨U.heap.size, 0, none⟩ (.int .i64 a)).setCell ⟨U.heap.size, 1, none⟩ (.int .i64 b)).setCell ⟨U.heap.size, 2, none⟩ (.int .i64 c)) :=
  ⟨U.heap.size, rfl, hW, heap_setCell_same _ _ 2 _ _ _ (heap_setCell_same _ _ 1 _ _ _ (heap_setCell_same _ _ 0 _ _ _ ((blk_new U _ _ rfl).to hU))), ((hb.setCell hW _).setCell hW _).setCell hW _⟩
theorem hs_two (w : World) (x y : H3) (T : TypeId) : HsAt (w.alloc (.cells #[.int .i64 x.a, .int .i64 x.b, .int .i64 x.c, .int .i64 y.a, .int .i64 y.b, .int .i64 y.c] T)) (some ⟨w.heap.size, 0, none⟩) [x, y] := by
  have K := blk_new w #[.int .i64 x.a, .int .i64 x.b, .int .i64 x.c, .int .i64 y.a, .int .i64 y.b, .int .i64 y.c] T rfl
  intro i z hz
  match i with
  | 0 =>
    simp at hz; subst hz
    exact ⟨_, _, rfl, K.cell0 (i := 0) rfl, K.cell0 (i := 1) rfl, K.cell0 (i := 2) rfl⟩
  | 1 =>
    simp at hz; subst hz
    exact ⟨_, _, rfl, K.cell0 (i := 3) rfl, K.cell0 (i := 4) rfl, K.cell0 (i := 5) rfl⟩
  | i + 2 => simp at hz
theorem gr3c {V X : World} {p q r : Addr} {a b c : Value} (h : V.cell? p = some a) (k : V.cell? q = some b) (l : V.cell? r = some c) (hb : Below V.heap.size V X) : X.cell? p = some a ∧ X.cell? q = some b ∧ X.cell? r = some c := ⟨cell_to h hb, cell_to k hb, cell_to l hb⟩
set_option maxRecDepth 100000 in
set_option maxHeartbeats 3200000 in
theorem impl_grw (a : Option Addr) (n ca : Nat) (ps : List H3) (bx cy lo hi : Int) (w : World) (hl : ps.length = n) (hn : n ≤ 1048576) (h64 : ∀ h ∈ ps, In64 h) (hz : a = none → n = 0 ∧ ca = 0) (hA : HsAt w a ps) :
    Calls Tryz.prog 112 #[.agg #[.slice a n ca], .int .i64 bx, .int .i64 cy, .int .i64 lo, .int .i64 hi] w (AnsR w (gwL ps bx cy lo hi) (gwB ps bx cy lo hi)) := by
  have bV := (below_bx2 (below_bx2 (below_bx2 (below_bx2 (below_bx2 (below_one w (.cells #[.slice a n ca] 40)) (.cells #[.int .i64 bx] 3)) (.cells #[.int .i64 cy] 3)) (.cells #[.int .i64 lo] 3)) (.cells #[.int .i64 hi] 3)) (.cells #[.slice none 0 0] 40))
  have K0 := ((((((blk_new w #[.slice a n ca] 40 (b := w.heap.size) (by simp)).to (below_one _ (.cells #[.int .i64 bx] 3))).to (below_one _ (.cells #[.int .i64 cy] 3))).to (below_one _ (.cells #[.int .i64 lo] 3))).to (below_one _ (.cells #[.int .i64 hi] 3))).to (below_one _ (.cells #[.slice none 0 0] 40)))
  have K1 := (((((blk_new (w.alloc (.cells #[.slice a n ca] 40)) #[.int .i64 bx] 3 (b := w.heap.size + 1) (by simp)).to (below_one _ (.cells #[.int .i64 cy] 3))).to (below_one _ (.cells #[.int .i64 lo] 3))).to (below_one _ (.cells #[.int .i64 hi] 3))).to (below_one _ (.cells #[.slice none 0 0] 40)))
  have K2 := ((((blk_new ((w.alloc (.cells #[.slice a n ca] 40)).alloc (.cells #[.int .i64 bx] 3)) #[.int .i64 cy] 3 (b := w.heap.size + 2) (by simp)).to (below_one _ (.cells #[.int .i64 lo] 3))).to (below_one _ (.cells #[.int .i64 hi] 3))).to (below_one _ (.cells #[.slice none 0 0] 40)))
  have K3 := (((blk_new (((w.alloc (.cells #[.slice a n ca] 40)).alloc (.cells #[.int .i64 bx] 3)).alloc (.cells #[.int .i64 cy] 3)) #[.int .i64 lo] 3 (b := w.heap.size + 3) (by simp)).to (below_one _ (.cells #[.int .i64 hi] 3))).to (below_one _ (.cells #[.slice none 0 0] 40)))
  have K4 := ((blk_new ((((w.alloc (.cells #[.slice a n ca] 40)).alloc (.cells #[.int .i64 bx] 3)).alloc (.cells #[.int .i64 cy] 3)).alloc (.cells #[.int .i64 lo] 3)) #[.int .i64 hi] 3 (b := w.heap.size + 4) (by simp)).to (below_one _ (.cells #[.slice none 0 0] 40)))
  have K5 := (blk_new (((((w.alloc (.cells #[.slice a n ca] 40)).alloc (.cells #[.int .i64 bx] 3)).alloc (.cells #[.int .i64 cy] 3)).alloc (.cells #[.int .i64 lo] 3)).alloc (.cells #[.int .i64 hi] 3)) #[.slice none 0 0] 40 (b := w.heap.size + 5) (by simp))
  have HR := Lib.hid (fun V (h : Below w.heap.size w V) => impl_rok a n ca ps V hl hn h64 (hA.below h))
  have HK := Lib.hid (fun V (h : Below w.heap.size w V) (ne : n ≠ 0) => clone_h a n ca ps V hl hn (.inr (Nat.pos_of_ne_zero ne)) (hA.below h))
  have HT := Lib.hid (fun V A B (h : Below w.heap.size w V) (hp : rokB ps = true) (ne : ps ≠ []) (i1 : inB A (-50000) 50000 = true) (i2 : inB B (-50000) 50000 = true) => impl_touch a n ca ps A B V hl hn h64 hp ne i1 i2 (hA.below h))
  have HV := Lib.hid (fun V => impl_void a n ca V)
  have HA := Lib.hid hA
  have HL := Lib.hid hl
  clear hl hA h64
  have q0 := K0.cell0 (i := 0) rfl
  have q1 := K1.cell0 (i := 0) rfl
  have q2 := K2.cell0 (i := 0) rfl
  have q3 := K3.cell0 (i := 0) rfl
  have q4 := K4.cell0 (i := 0) rfl
  have q5 := K5.cell0 (i := 0) rfl
  have f5 := K5.free 0
  go_enter Tryz.func112, Tryz.ntmps112
  go_wp2_with fail
  generalize ((((((w.alloc (.cells #[.slice a n ca] 40)).alloc (.cells #[.int .i64 bx] 3)).alloc (.cells #[.int .i64 cy] 3)).alloc (.cells #[.int .i64 lo] 3)).alloc (.cells #[.int .i64 hi] 3)).alloc (.cells #[.slice none 0 0] 40)) = V at *
  cases hd : (inB bx (-100) 100 && inB cy (-100) 100) with
  | false =>
    have HN := Lib.hid (gw_no (ps := ps) (bx := bx) (cy := cy) (lo := lo) (hi := hi) (by unfold gwC; rw [hd]; rfl))
    have HD := Lib.hid (fun W => impl_drv bx cy W false hd)
    clear hd
    refine (HD.out _).mono ?_
    rintro e w1 ⟨rfl, hw1⟩
    subst hw1
    go_wp2_with fail
    exact bodyPost_ret (v := .tuple #[.agg #[.slice none 0 0], .bool false]) (by simp [results, Tryz.results112, go_sem, q5]) rfl (AnsR.no HN.out.1 HN.out.2 (bV.setCell (p := ⟨w.heap.size + 5, 0, none⟩) (Nat.le_add_right _ _) _))
  | true =>
    have HD := Lib.hid (fun W => impl_drv bx cy W true hd)
    have HDD := Lib.hid hd
    clear hd
    refine (HD.out _).mono ?_
    rintro e w1 ⟨rfl, hw1⟩
    subst hw1
    clear HD
    cases hr : (inB lo (-1000) 1000 && inB hi lo 1000) with
    | false =>
      have HN := Lib.hid (gw_no (ps := ps) (bx := bx) (cy := cy) (lo := lo) (hi := hi) (by unfold gwC; rw [HDD.out, Bool.true_and, hr]; rfl))
      have HD := Lib.hid (fun W => impl_rng lo hi W false hr)
      clear hr
      go_wp2_with fail
      refine (HD.out _).mono ?_
      rintro e w1 ⟨rfl, hw1⟩
      subst hw1
      go_wp2_with fail
      exact bodyPost_ret (v := .tuple #[.agg #[.slice none 0 0], .bool false]) (by simp [results, Tryz.results112, go_sem, q5]) rfl (AnsR.no HN.out.1 HN.out.2 (bV.setCell (p := ⟨w.heap.size + 5, 0, none⟩) (Nat.le_add_right _ _) _))
    | true =>
      have HD := Lib.hid (fun W => impl_rng lo hi W true hr)
      have HRR := Lib.hid hr
      clear hr
      go_wp2_with fail
      refine (HD.out _).mono ?_
      rintro e w1 ⟨rfl, hw1⟩
      subst hw1
      clear HD
      by_cases h38 : (38 : Int) < (n : Int)
      · have HN := Lib.hid (gw_no (ps := ps) (bx := bx) (cy := cy) (lo := lo) (hi := hi) (by unfold gwC; rw [HL.out, decide_eq_false (show ¬ n ≤ 38 by omega)]; simp))
        have hdd : decide ((38 : Int) < (n : Int)) = true := decide_eq_true h38
        go_wp2_with fail
        exact bodyPost_ret (v := .tuple #[.agg #[.slice none 0 0], .bool false]) (by simp [results, Tryz.results112, go_sem, q5]) rfl (AnsR.no HN.out.1 HN.out.2 (bV.setCell (p := ⟨w.heap.size + 5, 0, none⟩) (Nat.le_add_right _ _) _))
      · have hdd : decide ((38 : Int) < (n : Int)) = false := decide_eq_false h38
        go_wp2_with fail
        refine (HR.out _ bV).mono ?_
        rintro e w2 ⟨rfl, bl2⟩
        have b2 := below_to bV bl2
        have L0 := K0.to bl2
        have L1 := K1.to bl2
        have L2 := K2.to bl2
        have L3 := K3.to bl2
        have L4 := K4.to bl2
        have L5 := K5.to bl2
        clear bV bl2 q0 q1 q2 q3 q4 q5 f5 K0 K1 K2 K3 K4 K5 HR
        have q0 := L0.cell0 (i := 0) rfl
        have q1 := L1.cell0 (i := 0) rfl
        have q2 := L2.cell0 (i := 0) rfl
        have q5 := L5.cell0 (i := 0) rfl
        have f5 := L5.free 0
        cases hk : rokB ps with
        | false =>
          have HN := Lib.hid (gw_no (ps := ps) (bx := bx) (cy := cy) (lo := lo) (hi := hi) (by unfold gwC; rw [hk]; simp))
          clear hk
          go_wp2_with fail
          exact bodyPost_ret (v := .tuple #[.agg #[.slice none 0 0], .bool false]) (by simp [results, Tryz.results112, go_sem, q5]) rfl (AnsR.no HN.out.1 HN.out.2 (b2.setCell (p := ⟨w.heap.size + 5, 0, none⟩) (Nat.le_add_right _ _) _))
        | true =>
          have HCC := Lib.hid (show gwC ps bx cy lo hi = true by
            have h1 := HDD.out
            have h2 := HRR.out
            unfold gwC
            rw [h1, Bool.true_and, Bool.and_assoc, Bool.and_assoc, ← Bool.and_assoc, h2, hk, HL.out, decide_eq_true (show n ≤ 38 by omega)]
            rfl)
          have HKK := Lib.hid hk
          clear hk
          go_wp2_with fail
          refine (HV.out _).mono ?_
          rintro e w3 ⟨rfl, bl3⟩
          have b3 := below_to b2 bl3
          have K0 := L0.to bl3
          have K1 := L1.to bl3
          have K2 := L2.to bl3
          have K3 := L3.to bl3
          have K4 := L4.to bl3
          have K5 := L5.to bl3
          clear b2 bl3 q0 q1 q2 q5 f5 L0 L1 L2 L3 L4 L5 HV
          have q0 := K0.cell0 (i := 0) rfl
          have q1 := K1.cell0 (i := 0) rfl
          have q2 := K2.cell0 (i := 0) rfl
          have q5 := K5.cell0 (i := 0) rfl
          have f5 := K5.free 0
          by_cases h0 : n = 0
          · have HN := Lib.hid (gw_same HCC.out (.inl (len_nil HL.out h0)))
            rw [len_nil HL.out h0] at HN
            have hb0 : ((n : Int) == 0) = true := by subst h0; rfl
            rw [len_nil HL.out h0] at *
            go_wp2_with fail
            exact bodyPost_ret (v := .tuple #[.agg #[.slice none 0 0], .bool true]) (by simp [results, Tryz.results112, go_sem, q5]) rfl (AnsR.no HN.out.1 HN.out.2 (b3.setCell (p := ⟨w.heap.size + 5, 0, none⟩) (Nat.le_add_right _ _) _))
          · have hb0 : ((n : Int) == 0) = false := eq_b (by omega)
            have hne := len_ne HL.out h0
            by_cases hz0 : bx = 0 ∧ cy = 0
            · have HN := Lib.hid (gw_same HCC.out (.inr hz0))
              obtain ⟨rfl, rfl⟩ := hz0
              go_wp2_with fail
              refine (HK.out _ b3 h0).mono ?_
              rintro e w4 ⟨ad, cd, rfl, ho4, bl4⟩
              have l5 := K5.lt
              have L5 := K5.to bl4
              have r5 := L5.cell0 (i := 0) rfl
              have k5 := L5.free 0
              have HF := Lib.hid (AnsR.put (p := ⟨w.heap.size + 5, 0, none⟩) (w := w) ho4 HN.out.1 HN.out.2 b3 bl4 l5 (Nat.le_add_right _ _))
              clear ho4
              go_wp2_with fail
              exact bodyPost_ret (v := .tuple #[.agg #[.slice ad n cd], .bool true]) (by simp [results, Tryz.results112, go_sem, r5]) rfl HF.out
            · have HZZ := Lib.hid hz0
              obtain ⟨⟨x1, x2⟩, y1, y2⟩ : (-100 ≤ bx ∧ bx ≤ 100) ∧ -100 ≤ cy ∧ cy ≤ 100 := by
                have := HDD.out
                rw [Bool.and_eq_true] at this
                exact ⟨of_inB this.1, of_inB this.2⟩
              have hgp : 0 < Int.gcd bx cy := Int.gcd_pos_iff.2 (by omega)
              obtain ⟨t1, t2⟩ := td_in (g := Int.gcd bx cy) x1 x2
              obtain ⟨t3, t4⟩ := td_in (g := Int.gcd bx cy) y1 y2
              have HG := Lib.hid (fun W => gcd_call bx cy W x1 x2 y1 y2)
              have hzb : bx = 0 → ¬ cy = 0 := fun h1 h2 => hz0 ⟨h1, h2⟩
              clear hz0
              have g1 : -100 ≤ gwa bx cy ∧ gwa bx cy ≤ 100 := ⟨t3, t4⟩
              have g2 : -100 ≤ gwb bx cy ∧ gwb bx cy ≤ 100 := ⟨t1, t2⟩
              have HT1 := Lib.hid (fun V (h : Below w.heap.size w V) => HT.out V (-gwa bx cy) (gwb bx cy) h HKK.out hne (inB_of (by omega) (by omega)) (inB_of (by omega) (by omega)))
              have HT2 := Lib.hid (fun V (h : Below w.heap.size w V) => HT.out V (gwa bx cy) (-gwb bx cy) h HKK.out hne (inB_of (by omega) (by omega)) (inB_of (by omega) (by omega)))
              have k100 := Lib.hid (rok_all HKK.out)
              have h40 := rok_len HKK.out
              have NO := Lib.hid (fun t => gw_tno (lo := lo) (hi := hi) hne HZZ.out t)
              have YES := Lib.hid (fun t => gw_yes HCC.out hne HZZ.out t)
              have HR1 := Lib.hid (show In1k lo ∧ In1k hi by
                have h2 := HRR.out
                rw [Bool.and_eq_true] at h2
                have := of_inB h2.1
                have := of_inB h2.2
                unfold In1k
                omega)
              have HR2 := Lib.hid (show In100 bx ∧ In100 cy from ⟨⟨x1, x2⟩, y1, y2⟩)
              have HU := Lib.hid (show gwT ps bx cy = true → ∀ h ∈ gwU ps bx cy, In64 h by
                intro t h hh
                unfold gwT at t
                rw [Bool.and_eq_true] at t
                unfold gwU at hh
                simp only [List.mem_cons, List.not_mem_nil, or_false] at hh
                rcases hh with rfl | rfl
                · exact ok_in64 (red_ok t.1)
                · exact ok_in64 (red_ok t.2))
              have HUU := Lib.hid (show gwU ps bx cy = [tcH (-gwa bx cy) (gwb bx cy) ps, tcH (gwa bx cy) (-gwb bx cy) ps] from rfl)
              have HTT := Lib.hid (show gwT ps bx cy = (tcB (-gwa bx cy) (gwb bx cy) ps && tcB (gwa bx cy) (-gwb bx cy) ps) from rfl)
              have ea : cy.tdiv (Int.gcd bx cy) = gwa bx cy := rfl
              have eb : bx.tdiv (Int.gcd bx cy) = gwb bx cy := rfl
              generalize gwU ps bx cy = fu at *
              generalize gwT ps bx cy = tt at *
              generalize tcB (-gwa bx cy) (gwb bx cy) ps = B1 at *
              generalize tcB (gwa bx cy) (-gwb bx cy) ps = B2 at *
              generalize tcH (-gwa bx cy) (gwb bx cy) ps = H1 at *
              generalize tcH (gwa bx cy) (-gwb bx cy) ps = H2 at *
              generalize gwa bx cy = ga at *
              generalize gwb bx cy = gb at *
              generalize Int.gcd bx cy = g at *
              obtain ⟨a1, a2, a3⟩ := H1
              obtain ⟨c1, c2, c3⟩ := H2
              simp only at HT1 HT2
              clear HT HK HZZ HDD HRR HCC hne t1 t2 t3 t4
              go_upto_region 5 with fail
              go_cut [48] from 43 to 48 (fun s48 wx => s48 = .bool false ∧ wx = w3)
              case first =>
                by_cases hbx : bx = 0
                · have e1 : (bx == 0) = true := by simpa using hbx
                  have e2 : (cy == 0) = false := eq_b (hzb hbx)
                  go_wp2_with fail
                  go_meet
                  exact ⟨rfl, rfl⟩
                · have e1 : (bx == 0) = false := eq_b hbx
                  go_wp2_with fail
                  go_meet
                  exact ⟨rfl, rfl⟩
              case rest =>
              obtain ⟨rfl, hw3⟩ := hcut
              subst hw3
              go_wp2_with fail
              refine (HG.out _).mono ?_
              rintro e w4 ⟨rfl, bl4⟩
              have b4 := below_to b3 bl4
              have L0 := K0.to bl4
              have L1 := K1.to bl4
              have L2 := K2.to bl4
              have L3 := K3.to bl4
              have L4 := K4.to bl4
              have L5 := K5.to bl4
              clear b3 bl4 q0 q1 q2 q5 f5 K0 K1 K2 K3 K4 K5 HG
              have q0 := L0.cell0 (i := 0) (v := .slice a n ca) rfl
              have q1 := L1.cell0 (i := 0) (v := .int .i64 bx) rfl
              have q2 := L2.cell0 (i := 0) (v := .int .i64 cy) rfl
              have nz1 : ¬ g = 0 := by omega
              have nz2 : ¬ (g : Int) = 0 := by omega
              have w1' : IntKind.i64.wrap (-cy) = -cy := IntWalk.i64_in _ (by omega)
              have w2' : IntKind.i64.wrap (-bx) = -bx := IntWalk.i64_in _ (by omega)
              have w3' : IntKind.i64.wrap ga = ga := IntWalk.i64_in _ (by omega)
              have w4' : IntKind.i64.wrap gb = gb := IntWalk.i64_in _ (by omega)
              have w5' : IntKind.i64.wrap (-ga) = -ga := IntWalk.i64_in _ (by omega)
              have w6' : IntKind.i64.wrap (-gb) = -gb := IntWalk.i64_in _ (by omega)
              have en1 : (-cy).tdiv (g : Int) = -ga := by rw [Int.neg_tdiv, ea]
              have en2 : (-bx).tdiv (g : Int) = -gb := by rw [Int.neg_tdiv, eb]
              go_wp2
              go_cut [13, 14] from 57 to 67 (fun s13 s14 wx => BoxH w4 a1 a2 a3 s13 wx ∧ s14 = .bool B1)
              case first =>
                go_region_held3 (fun w' => w'.cell? ⟨w.heap.size, 0, none⟩ = some (.slice a n ca) ∧ w'.cell? ⟨w.heap.size + 1, 0, none⟩ = some (.int .i64 bx) ∧ w'.cell? ⟨w.heap.size + 2, 0, none⟩ = some (.int .i64 cy))
                  ((refine gr3c q0 q1 q2 ?_; repeat (first | exact Below.refl _ _ | refine Below.setCell ?_ (by first | (simp; done) | (simp; omega)) _ | refine below_bx2 ?_ _ | refine below_drw ?_ | refine below_to ?_ (by assumption))))
                  ((go_at_call 142; (with_reducible refine (HT1.out _ ?_).mono ?_); (focus (repeat (first | exact b4 | refine below_drw ?_ | refine below_bx2 ?_ _ | refine below_to ?_ (by assumption)))); rintro e wC ⟨rfl, blC⟩; obtain ⟨hcC, hfC⟩ := bcl3 blC; have hsC := blC.size; (try simp at hsC)))
                all_goals
                  go_wp2_with fail
                  go_meet
                  refine ⟨?_, rfl⟩
                  have hbC : Below w4.heap.size w4 wC := by first | exact below_to (below_drw (Below.refl _ _)) blC | exact below_to (below_drw (below_bx2 (Below.refl _ _) _)) blC | exact below_to (below_bx2 (below_drw (Below.refl _ _)) _) blC | exact below_to (below_bx2 (Below.refl _ _) _) blC
                  first
                    | with_reducible exact BoxH.last hbC
                    | exact BoxH.early (U := w4) (x := 0) (y := 0) (z := 0) (by first | exact blC | exact below_to (below_drw (Below.refl _ _)) blC) (Nat.le_refl _) hbC
                    | exact BoxH.early (U := w4.drew) (x := 0) (y := 0) (z := 0) (by first | exact blC | exact below_to (below_drw (Below.refl _ _)) blC) (Nat.le_refl _) hbC
              case rest =>
              obtain ⟨⟨l1, rfl, hl1, kl1, bl5⟩, rfl⟩ := hcut
              have b5 := below_to b4 bl5
              have K0 := L0.to bl5
              have K1 := L1.to bl5
              have K2 := L2.to bl5
              have K3 := L3.to bl5
              have K4 := L4.to bl5
              have K5 := L5.to bl5
              have p0 := K0.cell0 (i := 0) (v := .slice a n ca) rfl
              have p1 := K1.cell0 (i := 0) (v := .int .i64 bx) rfl
              have p2 := K2.cell0 (i := 0) (v := .int .i64 cy) rfl
              clear b4 bl5 q0 q1 q2 L0 L1 L2 L3 L4 L5 HT1
              rename World => w5
              go_wp2
              go_cut [15, 16] from 69 to 79 (fun s13 s14 wx => BoxH w5 c1 c2 c3 s13 wx ∧ s14 = .bool B2)
              case first =>
                go_region_held3 (fun w' => w'.cell? ⟨w.heap.size, 0, none⟩ = some (.slice a n ca) ∧ w'.cell? ⟨w.heap.size + 1, 0, none⟩ = some (.int .i64 bx) ∧ w'.cell? ⟨w.heap.size + 2, 0, none⟩ = some (.int .i64 cy))
                  ((refine gr3c p0 p1 p2 ?_; repeat (first | exact Below.refl _ _ | refine Below.setCell ?_ (by first | (simp; done) | (simp; omega)) _ | refine below_bx2 ?_ _ | refine below_drw ?_ | refine below_to ?_ (by assumption))))
                  ((go_at_call 142; (with_reducible refine (HT2.out _ ?_).mono ?_); (focus (repeat (first | exact b5 | refine below_drw ?_ | refine below_bx2 ?_ _ | refine below_to ?_ (by assumption)))); rintro e wC ⟨rfl, blC⟩; obtain ⟨hcC, hfC⟩ := bcl3 blC; have hsC := blC.size; (try simp at hsC)))
                all_goals
                  go_wp2_with fail
                  go_meet
                  refine ⟨?_, rfl⟩
                  have hbC : Below w5.heap.size w5 wC := by first | exact below_to (below_drw (Below.refl _ _)) blC | exact below_to (below_drw (below_bx2 (Below.refl _ _) _)) blC | exact below_to (below_bx2 (below_drw (Below.refl _ _)) _) blC | exact below_to (below_bx2 (Below.refl _ _) _) blC
                  first
                    | with_reducible exact BoxH.last hbC
                    | exact BoxH.early (U := w5) (x := 0) (y := 0) (z := 0) (by first | exact blC | exact below_to (below_drw (Below.refl _ _)) blC) (Nat.le_refl _) hbC
                    | exact BoxH.early (U := w5.drew) (x := 0) (y := 0) (z := 0) (by first | exact blC | exact below_to (below_drw (Below.refl _ _)) blC) (Nat.le_refl _) hbC
              case rest =>
              obtain ⟨⟨l2, rfl, hl2, kl2, bl6⟩, rfl⟩ := hcut
              have b6 := below_to b5 bl6
              have L0 := K0.to bl6
              have L1 := K1.to bl6
              have L2 := K2.to bl6
              have L3 := K3.to bl6
              have L4 := K4.to bl6
              have L5 := K5.to bl6
              have kk1 := kl1.to bl6
              clear b5 bl6 p0 p1 p2 K0 K1 K2 K3 K4 K5 HT2 kl1 ea eb en1 en2 w1' w2' w3' w4' w5' w6' nz1 nz2
              rename World => w6
              have p5 := L5.cell0 (i := 0) (v := .slice none 0 0) rfl
              have f5 := L5.free 0
              cases B1 with
              | false =>
                have HN := Lib.hid (NO.out (by rw [HTT.out]; rfl))
                go_wp2_with fail
                exact bodyPost_ret (v := .tuple #[.agg #[.slice none 0 0], .bool false]) (by simp [results, Tryz.results112, go_sem, p5]) rfl (AnsR.no HN.out.1 HN.out.2 (b6.setCell (p := ⟨w.heap.size + 5, 0, none⟩) (Nat.le_add_right _ _) _))
              | true =>
                cases B2 with
                | false =>
                  have HN := Lib.hid (NO.out (by rw [HTT.out]; rfl))
                  go_wp2_with fail
                  exact bodyPost_ret (v := .tuple #[.agg #[.slice none 0 0], .bool false]) (by simp [results, Tryz.results112, go_sem, p5]) rfl (AnsR.no HN.out.1 HN.out.2 (b6.setCell (p := ⟨w.heap.size + 5, 0, none⟩) (Nat.le_add_right _ _) _))
                | true =>
                  have htt : tt = true := by rw [HTT.out]; rfl
                  have HN := Lib.hid (YES.out htt)
                  have HU2 := Lib.hid (HU.out htt)
                  clear NO YES HU HTT htt
                  have p0 := L0.cell0 (i := 0) (v := .slice a n ca) rfl
                  have m1 := kk1.cell0 (i := 0) (v := .int .i64 a1) rfl
                  have m2 := kk1.cell0 (i := 1) (v := .int .i64 a2) rfl
                  have m3 := kk1.cell0 (i := 2) (v := .int .i64 a3) rfl
                  have m4 := kl2.cell0 (i := 0) (v := .int .i64 c1) rfl
                  have m5 := kl2.cell0 (i := 1) (v := .int .i64 c2) rfl
                  have m6 := kl2.cell0 (i := 2) (v := .int .i64 c3) rfl
                  have bY := below_bx2 b6 (.cells #[.int .i64 a1, .int .i64 a2, .int .i64 a3, .int .i64 c1, .int .i64 c2, .int .i64 c3] 104)
                  have M1 := L1.to (below_one w6 (.cells #[.int .i64 a1, .int .i64 a2, .int .i64 a3, .int .i64 c1, .int .i64 c2, .int .i64 c3] 104))
                  have M2 := L2.to (below_one w6 (.cells #[.int .i64 a1, .int .i64 a2, .int .i64 a3, .int .i64 c1, .int .i64 c2, .int .i64 c3] 104))
                  have M3 := L3.to (below_one w6 (.cells #[.int .i64 a1, .int .i64 a2, .int .i64 a3, .int .i64 c1, .int .i64 c2, .int .i64 c3] 104))
                  have M4 := L4.to (below_one w6 (.cells #[.int .i64 a1, .int .i64 a2, .int .i64 a3, .int .i64 c1, .int .i64 c2, .int .i64 c3] 104))
                  have M5 := L5.to (below_one w6 (.cells #[.int .i64 a1, .int .i64 a2, .int .i64 a3, .int .i64 c1, .int .i64 c2, .int .i64 c3] 104))
                  have HM := Lib.hid (fun (e1 : w.heap.size + 1 + 1 = w.heap.size + 2) (e2 : w.heap.size + 1 + 1 + 1 = w.heap.size + 3) (e3 : w.heap.size + 1 + 1 + 1 + 1 = w.heap.size + 4) => impl_move 143 [.pointer (some ⟨w.heap.size + 1, 0, none⟩), .pointer (some ⟨w.heap.size + 1 + 1, 0, none⟩), .pointer (some ⟨w.heap.size + 1 + 1 + 1, 0, none⟩), .pointer (some ⟨w.heap.size + 1 + 1 + 1 + 1, 0, none⟩)] (enters_of Tryz.func143 (by kernel_rfl) rfl) (grB bx cy lo hi) (grM bx cy lo hi) a (some ⟨w6.heap.size, 0, none⟩) n ca 2 2 ps fu (w6.alloc (.cells #[.int .i64 a1, .int .i64 a2, .int .i64 a3, .int .i64 c1, .int .i64 c2, .int .i64 c3] 104)) HL.out (by rw [← HL.out]; exact h40) (HA.out.below bY) (by rw [HUU.out]; rfl) (by omega) (.inr (by omega)) (by rw [HUU.out]; exact hs_two w6 ⟨a1, a2, a3⟩ ⟨c1, c2, c3⟩ 104) HU2.out (fun h _ hb => ok_in64 (gr_ok bx cy lo hi h hb))
                    (fun h X hh hX => ⟨grM bx cy lo hi h, fun _ => rfl, gr_call (w.heap.size + 1) (w.heap.size + 1 + 1) (w.heap.size + 1 + 1 + 1) (w.heap.size + 1 + 1 + 1 + 1) bx cy lo hi h X HR2.out.1 HR2.out.2 HR1.out.1 HR1.out.2 (k100.out h hh) (cell_to (M1.cell0 (i := 0) (v := .int .i64 bx) rfl) hX) (cell_to (M2.cell0 (i := 0) (v := .int .i64 cy) rfl) hX) (cell_to (M3.cell0 (i := 0) (v := .int .i64 lo) rfl) hX) (cell_to (M4.cell0 (i := 0) (v := .int .i64 hi) rfl) hX)⟩))
                  have HM2 := Lib.hid (HM.out rfl rfl rfl)
                  clear HM
                  go_wp2_with fail
                  refine HM2.out.mono ?_
                  rintro e w7 ⟨ad, cd, rfl, ho7, bl7⟩
                  have l5 := M5.lt
                  have N5 := M5.to bl7
                  have r5 := N5.cell0 (i := 0) (v := .slice none 0 0) rfl
                  have k5 := N5.free 0
                  have HO := Lib.hid ho7
                  have HB := Lib.hid bl7
                  clear ho7 bl7 HM2 p5 f5
                  obtain ⟨LL, hLL⟩ : ∃ LL, mvL (grB bx cy lo hi) (grM bx cy lo hi) fu ps = LL := ⟨_, rfl⟩
                  obtain ⟨len, hlen⟩ : ∃ len, LL.length = len := ⟨_, rfl⟩
                  rw [hLL] at HO HN ⊢
                  rw [hlen] at HO ⊢
                  generalize mvB (grB bx cy lo hi) (grM bx cy lo hi) fu ps = r at *
                  have HF := Lib.hid (AnsR.put (p := ⟨w.heap.size + 5, 0, none⟩) (w := w) HO.out HN.out.1 HN.out.2 bY HB.out l5 (Nat.le_add_right _ _))
                  go_wp2_with fail
                  exact bodyPost_ret (v := .tuple #[.agg #[.slice ad len cd], .bool r]) (by simp [results, Tryz.results112, go_sem, r5]) rfl HF.out
open Go.RowKit Go.Shelf
open Geo (H3)

/-- what the model's list of grown half planes is -/
def GrnW (w : World) (L : List H3) (b : Bool) (e : Ending) (w' : World) : Prop :=
  (b = true ∧ ∃ ao cp, e = .returned (.tuple #[.slice ao L.length cp, .bool true]) ∧ w'.ownsRow w.heap.size 104 3 (.slice ao L.length cp) L.length (flat L) ∧ Below w.heap.size w w') ∨ (b = false ∧ e = .returned (.tuple #[.slice none 0 0, .bool false]) ∧ Below w.heap.size w w')
theorem GrnW.yes {w w' : World} {L : List H3} {b : Bool} {ao : Option Addr} {m cp : Nat} (hb : b = true) (hm : L.length = m) (ho : w'.ownsRow w.heap.size 104 3 (.slice ao m cp) m (flat L)) (hbl : Below w.heap.size w w') : GrnW w L b (.returned (.tuple #[.slice ao m cp, .bool true])) w' := by
  subst hm; exact .inl ⟨hb, ao, cp, rfl, ho, hbl⟩
/-- the two directions in which a region does not grow -/
def gwD (bx cy : Int) : List H3 := [⟨-gwa bx cy, gwb bx cy, 0⟩, ⟨gwa bx cy, -gwb bx cy, 0⟩]
theorem gw_in5 {bx cy : Int} (hx : In100 bx) (hy : In100 cy) : ∀ x ∈ gwD bx cy, (-100 ≤ x.a ∧ x.a ≤ 100) ∧ (-100 ≤ x.b ∧ x.b ≤ 100) := by
  obtain ⟨t1, t2⟩ := td_in (g := Int.gcd bx cy) hx.1 hx.2
  obtain ⟨t3, t4⟩ := td_in (g := Int.gcd bx cy) hy.1 hy.2
  intro x hx
  unfold gwD at hx
  simp only [List.mem_cons, List.not_mem_nil, or_false] at hx
  rcases hx with rfl | rfl <;> simp only [gwa, gwb] <;> omega
theorem regL_swap {fu xs : List H3} (hok : (xs ++ fu).all okB = true) : regL (fu ++ xs) = regL (xs ++ fu) := by
  have h2 : (fu ++ xs).all okB = true := by rw [List.all_append, Bool.and_comm, ← List.all_append]; exact hok
  rw [← mod_reg hok]
  exact (mod_of hok (Inv_swap (regL_inv h2) fun x => by
    simp only [List.mem_append]
    constructor
    · rintro (h | h | h) <;> simp [h]
    · rintro ((h | h) | h) <;> simp [h])).symm
end Go.Proofs.YtibkmhmeoelpdaaGreat
