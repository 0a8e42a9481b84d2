/- The contracts of both BoxRegion functions over the translation, and the walk of their law. -/
import Derived.Test.YthpnbhebojgpbaaHt
namespace Go.Proofs.Ythpnbhebojgpbaa
open Go.RowKit
open Geo (H3)

/-- a box within the frame, with an inside -/
def bxB (x0 y0 x1 y1 : Int) : Bool := decide (-1000 ≤ x0) && decide (x0 < x1) && decide (x1 ≤ 1000) && decide (-1000 ≤ y0) && decide (y0 < y1) && decide (y1 ≤ 1000)
theorem bx_iff (x0 y0 x1 y1 : Int) : bxB x0 y0 x1 y1 = true ↔ -1000 ≤ x0 ∧ x0 < x1 ∧ x1 ≤ 1000 ∧ -1000 ≤ y0 ∧ y0 < y1 ∧ y1 ≤ 1000 := by
  unfold bxB; simp only [Bool.and_eq_true, decide_eq_true_eq, and_assoc]
theorem bx_no {x0 y0 x1 y1 : Int} (h : ¬ (-1000 ≤ x0 ∧ x0 < x1 ∧ x1 ≤ 1000 ∧ -1000 ≤ y0 ∧ y0 < y1 ∧ y1 ≤ 1000)) : bxB x0 y0 x1 y1 = false := by
  rw [← Bool.not_eq_true, bx_iff]; exact h
/-- the half planes of a box -/
def bxL (x0 y0 x1 y1 : Int) : List H3 := if bxB x0 y0 x1 y1 = true then boxL x0 y0 x1 y1 else []
theorem bxL_no {x0 y0 x1 y1 : Int} (h : bxB x0 y0 x1 y1 = false) : bxL x0 y0 x1 y1 = [] := if_neg (by rw [h]; simp)
theorem bxL_len (x0 y0 x1 y1 : Int) : (bxL x0 y0 x1 y1).length ≤ 4 := by unfold bxL; split <;> simp [boxL]
theorem box_poly {x0 y0 x1 y1 : Int} (hx : x0 < x1) (hy : y0 < y1) : Geo.Poly (boxL x0 y0 x1 y1) := by
  refine ⟨by simp [boxL], ?_, ?_, ?_⟩
  · intro e h; simp only [boxL, List.mem_cons, List.not_mem_nil, or_false] at h
    rcases h with rfl | rfl | rfl | rfl <;> simp [Geo.nz]
  · simp [boxL, Geo.bef, Geo.up]
  · intro p h
    simp only [Geo.cyc, boxL, Geo.prs, List.headD_cons, List.headD_nil, List.mem_cons, List.not_mem_nil, or_false] at h
    rcases h with rfl | rfl | rfl | rfl
    all_goals
      refine ⟨by simp [Geo.tn], ?_⟩
      intro e he n1 n2
      simp only [boxL, List.mem_cons, List.not_mem_nil, or_false] at he
      rcases he with rfl | rfl | rfl | rfl <;> first | exact absurd rfl n1 | exact absurd rfl n2 | (simp only [Geo.D]; omega)
theorem box_inv {x0 y0 x1 y1 : Int} (h : bxB x0 y0 x1 y1 = true) : Geo.Inv (boxL x0 y0 x1 y1) (boxL x0 y0 x1 y1 ++ Geo.frame) := by
  obtain ⟨h1, h2, h3, h4, h5, h6⟩ := (bx_iff _ _ _ _).1 h
  have P := box_poly h2 h5
  refine Or.inl ⟨P, fun x hx => List.mem_append_left _ hx, fun p hp g hg => ?_⟩
  rcases List.mem_append.1 hg with hg | hg
  · exact (P.2.2.2 p hp).le hg
  · simp only [Geo.cyc, boxL, Geo.prs, List.headD_cons, List.headD_nil, List.mem_cons, List.not_mem_nil, or_false] at hp
    simp only [Geo.frame, List.mem_cons, List.not_mem_nil, or_false] at hg
    rcases hp with rfl | rfl | rfl | rfl <;> rcases hg with rfl | rfl | rfl | rfl <;> (simp only [Geo.D]; omega)
theorem box_ok {x0 y0 x1 y1 : Int} (h : bxB x0 y0 x1 y1 = true) : (boxL x0 y0 x1 y1).all okB = true := by
  obtain ⟨h1, h2, h3, h4, h5, h6⟩ := (bx_iff _ _ _ _).1 h
  simp only [boxL, List.all_cons, List.all_nil, Bool.and_true, Bool.and_eq_true]
  have u : ∀ c : Int, Int.gcd 1 c = 1 := fun c => by simp [Int.gcd]
  have u2 : ∀ c : Int, Int.gcd (-1) c = 1 := fun c => by simp [Int.gcd]
  refine ⟨?_, ?_, ?_, ?_⟩
  all_goals
    unfold okB
    refine (okH_iff _ _ _).2 ?_
    simp [gS]
    try omega
theorem box_mod {x0 y0 x1 y1 : Int} (h : bxB x0 y0 x1 y1 = true) : modL (boxL x0 y0 x1 y1) = boxL x0 y0 x1 y1 := mod_of (box_ok h) (box_inv h)
/-- an answer of a box and whether it is one -/
def BoxW (w : World) (hs : List H3) (b : Bool) (e : Ending) (w' : World) : Prop := ∃ ao cp, e = .returned (.tuple #[.agg #[.slice ao hs.length cp], .bool b]) ∧ w'.ownsRow w.heap.size 34 3 (.slice ao hs.length cp) hs.length (flat hs) ∧ Below w.heap.size w w'
theorem BoxW.no {w w' : World} {x0 y0 x1 y1 : Int} (h : bxB x0 y0 x1 y1 = false) (hb : Below w.heap.size w w') : BoxW w (bxL x0 y0 x1 y1) (bxB x0 y0 x1 y1) (.returned (.tuple #[.agg #[.slice none 0 0], .bool false])) w' := by
  unfold BoxW
  rw [bxL_no h, h]
  exact ⟨none, 0, rfl, own3_none, hb⟩
theorem BoxW.yes {w w' : World} {x0 y0 x1 y1 : Int} {ao : Option Addr} {cp : Nat} (h : bxB x0 y0 x1 y1 = true) (ho : w'.ownsRow w.heap.size 34 3 (.slice ao 4 cp) 4 (flat (boxL x0 y0 x1 y1))) (hb : Below w.heap.size w w') : BoxW w (bxL x0 y0 x1 y1) (bxB x0 y0 x1 y1) (.returned (.tuple #[.agg #[.slice ao 4 cp], .bool true])) w' := by
  unfold BoxW
  rw [show bxL x0 y0 x1 y1 = boxL x0 y0 x1 y1 from if_pos h, h]
  exact ⟨ao, cp, rfl, ho, hb⟩
theorem extent (a b : Int) (w : World) : Calls Try.prog 72 #[.int .i64 a, .int .i64 b] w fun e w' => e = .returned (.bool (decide (-1000 ≤ a) && decide (a < b) && decide (b ≤ 1000))) ∧ w' = w := by
  by_cases h1 : -1000 ≤ a
  · by_cases h2 : a < b
    · go_enter Try.func72, Try.ntmps72
      go_wp2
      go_ret
      exact ⟨ret_bool (by simp [h1, h2]), rfl⟩
    · go_enter Try.func72, Try.ntmps72
      go_wp2
      go_ret
      exact ⟨ret_bool (by simp; omega), rfl⟩
  · go_enter Try.func72, Try.ntmps72
    go_wp2
    go_ret
    exact ⟨ret_bool (by simp; omega), rfl⟩
set_option maxRecDepth 100000 in
set_option maxHeartbeats 1600000 in
theorem impl_box (x0 y0 x1 y1 : Int) (w : World) : Calls Try.prog 46 #[.int .i64 x0, .int .i64 y0, .int .i64 x1, .int .i64 y1] w (BoxW w (bxL x0 y0 x1 y1) (bxB x0 y0 x1 y1)) := by
  have bV := below_one w (.cells #[.slice none 0 0] 26)
  have q2 : (w.alloc (.cells #[.slice none 0 0] 26)).cell? ⟨w.heap.size, 0, none⟩ = some (.slice none 0 0) := by simp
  have f2 : (w.alloc (.cells #[.slice none 0 0] 26)).frozen? ⟨w.heap.size, 0, none⟩ = false := by simp
  have hzV : w.heap.size < (w.alloc (.cells #[.slice none 0 0] 26)).heap.size := by simp
  have HX := Lib.hid (fun V => extent x0 x1 V)
  have HY := Lib.hid (fun V => extent y0 y1 V)
  cases hx : (decide (-1000 ≤ x0) && decide (x0 < x1) && decide (x1 ≤ 1000)) with
  | false =>
    have HN := Lib.hid (show bxB x0 y0 x1 y1 = false by unfold bxB; rw [hx]; rfl)
    rw [hx] at HX
    clear hx
    go_enter Try.func46, Try.ntmps46
    go_wp2_with fail
    generalize w.alloc (.cells #[.slice none 0 0] 26) = V at *
    refine (HX.out _).mono ?_
    rintro e w1 ⟨rfl, rfl⟩
    go_wp2
    exact bodyPost_ret (v := .tuple #[.agg #[.slice none 0 0], .bool false]) (by simp [results, Try.results46, go_sem, q2]) rfl (BoxW.no HN.out (bV.setCell (Nat.le_refl _) _))
  | true =>
    cases hy : (decide (-1000 ≤ y0) && decide (y0 < y1) && decide (y1 ≤ 1000)) with
    | false =>
      have HN := Lib.hid (show bxB x0 y0 x1 y1 = false by
        refine bx_no fun h => ?_
        obtain ⟨_, _, _, h4, h5, h6⟩ := h
        simp [h4, h5, h6] at hy)
      rw [hx] at HX
      rw [hy] at HY
      clear hx hy
      go_enter Try.func46, Try.ntmps46
      go_wp2_with fail
      generalize w.alloc (.cells #[.slice none 0 0] 26) = V at *
      refine (HX.out _).mono ?_
      rintro e w1 ⟨rfl, rfl⟩
      go_wp2_with fail
      refine (HY.out _).mono ?_
      rintro e w1 ⟨rfl, rfl⟩
      go_wp2
      exact bodyPost_ret (v := .tuple #[.agg #[.slice none 0 0], .bool false]) (by simp [results, Try.results46, go_sem, q2]) rfl (BoxW.no HN.out (bV.setCell (Nat.le_refl _) _))
    | true =>
      have hb : bxB x0 y0 x1 y1 = true := by
        simp only [Bool.and_eq_true, decide_eq_true_eq] at hx hy
        exact (bx_iff _ _ _ _).2 ⟨hx.1.1, hx.1.2, hx.2, hy.1.1, hy.1.2, hy.2⟩
      have HN := Lib.hid hb
      obtain ⟨h1, h2, h3, h4, h5, h6⟩ := (bx_iff _ _ _ _).1 hb
      have HB := Lib.hid (fun V => box_halves x0 y0 x1 y1 V h1 (by omega) h4 (by omega))
      rw [hx] at HX
      rw [hy] at HY
      clear hx hy hb h1 h2 h3 h4 h5 h6
      go_enter Try.func46, Try.ntmps46
      go_wp2_with fail
      generalize w.alloc (.cells #[.slice none 0 0] 26) = V at *
      refine (HX.out _).mono ?_
      rintro e w1 ⟨rfl, rfl⟩
      go_wp2_with fail
      refine (HY.out _).mono ?_
      rintro e w1 ⟨rfl, rfl⟩
      go_wp2_with fail
      refine (HB.out _).mono ?_
      rintro e w1 ⟨a1, c1, rfl, ho1, bl1⟩
      have p3 := cell_to q2 bl1
      have g3 : w1.frozen? ⟨w.heap.size, 0, none⟩ = false := by rw [bl1.frozen hzV]; exact f2
      have HW := Lib.hid (BoxW.yes HN.out (own_base (own_far (p := ⟨w.heap.size, 0, none⟩) ho1 hzV (.slice a1 4 c1)) (Nat.le_of_lt hzV)) ((below_to bV bl1).setCell (Nat.le_refl _) _))
      clear ho1
      go_wp2
      exact bodyPost_ret (v := .tuple #[.agg #[.slice a1 4 c1], .bool true]) (by simp [results, Try.results46, go_sem, p3]) rfl HW.out
theorem in_true {n lo hi : Int} : inB n lo hi = true ↔ lo ≤ n ∧ n ≤ hi := by unfold inB; simp
theorem in_false {n lo hi : Int} : inB n lo hi = false ↔ ¬ (lo ≤ n ∧ n ≤ hi) := by rw [← in_true]; simp
set_option maxRecDepth 100000 in
set_option maxHeartbeats 3200000 in
theorem spec_box (x0 y0 x1 y1 : Int) (w : World) : Calls Try.prog 45 #[.int .i64 x0, .int .i64 y0, .int .i64 x1, .int .i64 y1] w (BoxW w (bxL x0 y0 x1 y1) (bxB x0 y0 x1 y1)) := by
  have bV := below_one w (.cells #[.slice none 0 0] 26)
  have q2 : (w.alloc (.cells #[.slice none 0 0] 26)).cell? ⟨w.heap.size, 0, none⟩ = some (.slice none 0 0) := by simp
  have f2 : (w.alloc (.cells #[.slice none 0 0] 26)).frozen? ⟨w.heap.size, 0, none⟩ = false := by simp
  have hzV : w.heap.size < (w.alloc (.cells #[.slice none 0 0] 26)).heap.size := by simp
  cases kA : inB x0 (-1000) 1000 with
  | false =>
    have HN := Lib.hid (show bxB x0 y0 x1 y1 = false from bx_no fun h => by have := in_false.1 kA; omega)
    have HA := Lib.hid (fun V => in_spec_is x0 (-1000) 1000 V false kA)
    clear kA
    go_enter Try.func45, Try.ntmps45
    go_wp2_with fail
    generalize w.alloc (.cells #[.slice none 0 0] 26) = V at *
    refine (HA.out _).mono ?_
    rintro e w1 ⟨rfl, rfl⟩
    go_wp2
    exact bodyPost_ret (v := .tuple #[.agg #[.slice none 0 0], .bool false]) (by simp [results, Try.results45, go_sem, q2]) rfl (BoxW.no HN.out (bV.setCell (Nat.le_refl _) _))
  | true =>
    cases kB : inB x1 (x0 + 1) 1000 with
    | false =>
      have HN := Lib.hid (show bxB x0 y0 x1 y1 = false from bx_no fun h => by have := in_false.1 kB; omega)
      have HA := Lib.hid (fun V => in_spec_is x0 (-1000) 1000 V true kA)
      obtain ⟨uA, vA⟩ := in_true.1 kA
      have HB := Lib.hid (fun V => in_spec_is x1 (x0 + 1) 1000 V false kB)
      clear kA kB
      go_enter Try.func45, Try.ntmps45
      go_wp2_with fail
      generalize w.alloc (.cells #[.slice none 0 0] 26) = V at *
      refine (HA.out _).mono ?_
      rintro e w1 ⟨rfl, rfl⟩
      go_wp2_with fail
      refine (HB.out _).mono ?_
      rintro e w1 ⟨rfl, rfl⟩
      go_wp2
      exact bodyPost_ret (v := .tuple #[.agg #[.slice none 0 0], .bool false]) (by simp [results, Try.results45, go_sem, q2]) rfl (BoxW.no HN.out (bV.setCell (Nat.le_refl _) _))
    | true =>
      cases kC : inB y0 (-1000) 1000 with
      | false =>
        have HN := Lib.hid (show bxB x0 y0 x1 y1 = false from bx_no fun h => by have := in_false.1 kC; omega)
        have HA := Lib.hid (fun V => in_spec_is x0 (-1000) 1000 V true kA)
        obtain ⟨uA, vA⟩ := in_true.1 kA
        have HB := Lib.hid (fun V => in_spec_is x1 (x0 + 1) 1000 V true kB)
        obtain ⟨uB, vB⟩ := in_true.1 kB
        have HC := Lib.hid (fun V => in_spec_is y0 (-1000) 1000 V false kC)
        clear kA kB kC
        go_enter Try.func45, Try.ntmps45
        go_wp2_with fail
        generalize w.alloc (.cells #[.slice none 0 0] 26) = V at *
        refine (HA.out _).mono ?_
        rintro e w1 ⟨rfl, rfl⟩
        go_wp2_with fail
        refine (HB.out _).mono ?_
        rintro e w1 ⟨rfl, rfl⟩
        go_wp2_with fail
        refine (HC.out _).mono ?_
        rintro e w1 ⟨rfl, rfl⟩
        go_wp2
        exact bodyPost_ret (v := .tuple #[.agg #[.slice none 0 0], .bool false]) (by simp [results, Try.results45, go_sem, q2]) rfl (BoxW.no HN.out (bV.setCell (Nat.le_refl _) _))
      | true =>
        cases kD : inB y1 (y0 + 1) 1000 with
        | false =>
          have HN := Lib.hid (show bxB x0 y0 x1 y1 = false from bx_no fun h => by have := in_false.1 kD; omega)
          have HA := Lib.hid (fun V => in_spec_is x0 (-1000) 1000 V true kA)
          obtain ⟨uA, vA⟩ := in_true.1 kA
          have HB := Lib.hid (fun V => in_spec_is x1 (x0 + 1) 1000 V true kB)
          obtain ⟨uB, vB⟩ := in_true.1 kB
          have HC := Lib.hid (fun V => in_spec_is y0 (-1000) 1000 V true kC)
          obtain ⟨uC, vC⟩ := in_true.1 kC
          have HD := Lib.hid (fun V => in_spec_is y1 (y0 + 1) 1000 V false kD)
          clear kA kB kC kD
          go_enter Try.func45, Try.ntmps45
          go_wp2_with fail
          generalize w.alloc (.cells #[.slice none 0 0] 26) = V at *
          refine (HA.out _).mono ?_
          rintro e w1 ⟨rfl, rfl⟩
          go_wp2_with fail
          refine (HB.out _).mono ?_
          rintro e w1 ⟨rfl, rfl⟩
          go_wp2_with fail
          refine (HC.out _).mono ?_
          rintro e w1 ⟨rfl, rfl⟩
          go_wp2_with fail
          refine (HD.out _).mono ?_
          rintro e w1 ⟨rfl, rfl⟩
          go_wp2
          exact bodyPost_ret (v := .tuple #[.agg #[.slice none 0 0], .bool false]) (by simp [results, Try.results45, go_sem, q2]) rfl (BoxW.no HN.out (bV.setCell (Nat.le_refl _) _))
        | true =>
          have hb : bxB x0 y0 x1 y1 = true := (bx_iff _ _ _ _).2 (by have := in_true.1 kA; have := in_true.1 kB; have := in_true.1 kC; have := in_true.1 kD; omega)
          have HN := Lib.hid hb
          have HM := Lib.hid (fun V a c (h : V.ownsRow w.heap.size 34 3 (.slice a 4 c) 4 (flat (boxL x0 y0 x1 y1))) => spec_make a 4 c (boxL x0 y0 x1 y1) V rfl (by omega) (box_ok hb) (own_nil h) (own_hs h))
          rw [box_mod hb] at HM
          have HA := Lib.hid (fun V => in_spec_is x0 (-1000) 1000 V true kA)
          obtain ⟨uA, vA⟩ := in_true.1 kA
          have HB := Lib.hid (fun V => in_spec_is x1 (x0 + 1) 1000 V true kB)
          obtain ⟨uB, vB⟩ := in_true.1 kB
          have HC := Lib.hid (fun V => in_spec_is y0 (-1000) 1000 V true kC)
          obtain ⟨uC, vC⟩ := in_true.1 kC
          have HD := Lib.hid (fun V => in_spec_is y1 (y0 + 1) 1000 V true kD)
          obtain ⟨uD, vD⟩ := in_true.1 kD
          clear kA kB kC kD hb
          go_enter Try.func45, Try.ntmps45
          go_wp2_with fail
          generalize w.alloc (.cells #[.slice none 0 0] 26) = V at *
          refine (HA.out _).mono ?_
          rintro e w1 ⟨rfl, rfl⟩
          go_wp2_with fail
          refine (HB.out _).mono ?_
          rintro e w1 ⟨rfl, rfl⟩
          go_wp2_with fail
          refine (HC.out _).mono ?_
          rintro e w1 ⟨rfl, rfl⟩
          go_wp2_with fail
          refine (HD.out _).mono ?_
          rintro e w1 ⟨rfl, rfl⟩
          go_wp2_with fail
          have O1 := Lib.hid (own3_new w1 _ 34 (boxL x0 y0 x1 y1) 4 _ rfl rfl (by unfold maxLen; omega) (Nat.le_of_lt hzV))
          refine (HM.out _ _ _ O1.out).mono ?_
          rintro e w2 ⟨a1, c1, rfl, ho1, bl1⟩
          have hz2 : w.heap.size < (w1.alloc (.cells #[.int .i64 1, .int .i64 0, .int .i64 x1, .int .i64 0, .int .i64 1, .int .i64 y1, .int .i64 (-1), .int .i64 0, .int .i64 (-x0), .int .i64 0, .int .i64 (-1), .int .i64 (-y0)] 34)).heap.size := by simp; omega
          have p3 := cell_to (cell_to q2 (below_one _ _)) bl1
          have g3 : w2.frozen? ⟨w.heap.size, 0, none⟩ = false := by rw [bl1.frozen hz2, (below_one _ _).frozen hzV]; exact f2
          have HW := Lib.hid (BoxW.yes HN.out (own_base (own_far (p := ⟨w.heap.size, 0, none⟩) ho1 hz2 (.slice a1 4 c1)) (Nat.le_of_lt hz2)) ((below_to (below_bx2 bV _) bl1).setCell (Nat.le_refl _) _))
          clear ho1
          go_wp2
          exact bodyPost_ret (v := .tuple #[.agg #[.slice a1 4 c1], .bool true]) (by simp [results, Try.results45, go_sem, p3, boxL]) rfl HW.out
set_option maxRecDepth 100000 in
set_option maxHeartbeats 8000000 in
theorem law_box (x0 y0 x1 y1 : Int) (_wx : (Lit.int .i64 x0).wf = true) (_wy : (Lit.int .i64 y0).wf = true) (_wz : (Lit.int .i64 x1).wf = true) (_wt : (Lit.int .i64 y1).wf = true) (w : World) :
    Calls Try.prog 11 #[.int .i64 x0, .int .i64 y0, .int .i64 x1, .int .i64 y1] w fun e w' => e = .returned (.bool true) ∧ Below w.heap.size w w' := by
  have HSF := Lib.hid (fun V => spec_box x0 y0 x1 y1 V)
  have HIF := Lib.hid (fun V => impl_box x0 y0 x1 y1 V)
  have hm40 := bxL_len x0 y0 x1 y1
  have HER := Lib.hid (fun V a1 a2 c1 c2 (h1 : HsAt V a1 (bxL x0 y0 x1 y1)) (h2 : HsAt V a2 (bxL x0 y0 x1 y1)) => eq_region a1 a2 (bxL x0 y0 x1 y1).length c1 c2 (bxL x0 y0 x1 y1) V rfl (by omega) h1 h2)
  generalize bxL x0 y0 x1 y1 = hs at *
  generalize bxB x0 y0 x1 y1 = r at *
  unfold BoxW at HSF HIF
  generalize hs.length = m at *
  go_enter Try.func11, Try.ntmps11
  go_wp2_with fail
  refine (HSF.out _).mono ?_
  rintro e w2 ⟨aw, cw, rfl, how, b2⟩
  have OW := Lib.hid how
  clear how
  go_wp2_with fail
  have bB := below_bx2 b2 (.cells #[.slice aw m cw] 26)
  have q4 : (w2.alloc (.cells #[.slice aw m cw] 26)).cell? ⟨w2.heap.size, 0, none⟩ = some (.slice aw m cw) := by simp
  have OW2 := Lib.hid (own_below OW.out (below_one w2 (.cells #[.slice aw m cw] 26)))
  have z1 := b2.size
  clear OW b2
  generalize w2.alloc (.cells #[.slice aw m cw] 26) = U at *
  obtain ⟨bx, hbx⟩ : ∃ b, w2.heap.size = b := ⟨_, rfl⟩
  rw [hbx] at q4 z1 ⊢
  clear hbx
  refine (HIF.out _).mono ?_
  rintro e w4 ⟨ag, cg, rfl, hog, bl4⟩
  have OG := Lib.hid hog
  have z3 := bl4.size
  have xg := Lib.hid (fun p (h : (Value.slice ag m cg).ownBlock = some p) => own_block_lt OG.out h)
  have xw := Lib.hid (fun p (h : (Value.slice aw m cw).ownBlock = some p) => own_block_lt OW2.out h)
  have lbx := block_lt_of_cell q4
  simp only at lbx
  have bl5 := below_to bl4 (below_one w4 (.cells #[.slice ag m cg] 26))
  have p4 := cell_to q4 bl5
  have p7 : (w4.alloc (.cells #[.slice ag m cg] 26)).cell? ⟨w4.heap.size, 0, none⟩ = some (.slice ag m cg) := by simp
  have PW := Lib.hid (own_below OW2.out bl5)
  have PG := Lib.hid (own_below OG.out (below_one w4 (.cells #[.slice ag m cg] 26)))
  have b5 := below_to bB bl5
  clear hog OG OW2 bl4 bl5 q4 bB
  go_wp2_with fail
  generalize w4.alloc (.cells #[.slice ag m cg] 26) = X at *
  obtain ⟨b7, hb7⟩ : ∃ b, w4.heap.size = b := ⟨_, rfl⟩
  rw [hb7] at p7 z3 xg ⊢
  clear hb7
  refine (HER.out _ _ _ _ _ (own_hs PG.out) (own_hs PW.out)).mono ?_
  rintro e w9 ⟨rfl, bl5⟩
  have p4' := cell_to p4 bl5
  have p7' := cell_to p7 bl5
  have QW := Lib.hid (own_below PW.out bl5)
  have QG := Lib.hid (own_below PG.out bl5)
  have b10 := below_to b5 bl5
  clear p4 p7 PW PG b5 bl5
  go_wp2_with fail
  refine (mark_region2 _ m U.heap.size hs w9 (by omega) QG.out).mono ?_
  rintro e wa ⟨rfl, hoA, hgA⟩
  have bwA : Below U.heap.size w9 wa := grown_below QG.out (by have := block_lt_of_cell p7'; simp only at this; omega) hgA
  have p4 := cell_far p4' hgA (fun h => by have := (xg.out _ h.symm).1; simp only at this; omega)
  have p7 := cell_far p7' hgA (fun h => by have := (xg.out _ h.symm).2; simp only at this; omega)
  have PW := Lib.hid (own_grow QW.out hgA (fun p hp e => by have := (xw.out p hp).2; have := (xg.out p e.symm).1; omega))
  have PM := Lib.hid hoA
  have b11 : Below w.heap.size w wa := b10.trans (bwA.mono (by omega))
  clear p4' p7' QW QG b10 hgA bwA hoA
  go_wp2_with fail
  refine (held_region ag m cg wa (by omega) (own_hs PM.out)).mono ?_
  rintro e wb ⟨rfl, blb⟩
  have p4' := cell_to p4 blb
  have p7' := cell_to p7 blb
  have QW := Lib.hid (own_below PW.out blb)
  have QM := Lib.hid (own_below PM.out blb)
  have b13 := below_to b11 blb
  clear p4 p7 PW PM b11 blb
  go_wp2_with fail
  refine (HIF.out _).mono ?_
  rintro e wd ⟨ah, ch, rfl, hoh, bld⟩
  have bl2 := below_to bld (below_one wd (.cells #[.slice ah m ch] 26))
  have p4 := cell_to p4' bl2
  have p7 := cell_to p7' bl2
  have PW := Lib.hid (own_below QW.out bl2)
  have PM := Lib.hid (own_below QM.out bl2)
  have PH := Lib.hid (own_below hoh (below_one wd (.cells #[.slice ah m ch] 26)))
  have p12 : (wd.alloc (.cells #[.slice ah m ch] 26)).cell? ⟨wd.heap.size, 0, none⟩ = some (.slice ah m ch) := by simp
  have b14 := below_to b13 bl2
  clear p4' p7' QW QM b13 bld bl2 hoh
  go_wp2_with fail
  generalize wd.alloc (.cells #[.slice ah m ch] 26) = Y at *
  refine (HER.out _ _ _ _ _ (own_hs PH.out) (own_hs PW.out)).mono ?_
  rintro e we ⟨rfl, ble⟩
  have p7' := cell_to p7 ble
  have QM := Lib.hid (own_below PM.out ble)
  have b15 := below_to b14 ble
  clear p4 p7 PW PM PH b14 ble p12
  go_wp2_with fail
  refine (held_region ag m cg we (by omega) (own_hs QM.out)).mono ?_
  rintro e wf ⟨rfl, blf⟩
  have b16 := below_to b15 blf
  clear p7' QM b15 blf
  go_wp2
  go_ret
  exact ⟨rfl, b16⟩
end Go.Proofs.Ythpnbhebojgpbaa
