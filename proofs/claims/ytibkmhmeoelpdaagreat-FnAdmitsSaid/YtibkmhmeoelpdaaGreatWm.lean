/- The contract of the spec's HasSpot over the translation, and the walk of its law. The contracts of both BoxRegion functions over the translation, and the walk of their law. The contracts of both WholeSpots functions over the translation, and the walk of their law. -/
import Derived.Test.YtibkmhmeoelpdaaGreatRm
import Derived.Test.YtibkmhmeoelpdaaGreatVs
namespace Go.Proofs.YtibkmhmeoelpdaaGreat
open Go.RowKit
open Geo (H3)
theorem fourc {V X : World} {p q r s : Addr} {a b c d : Value} (h : V.cell? p = some a) (k : V.cell? q = some b) (l : V.cell? r = some c) (m : V.cell? s = some d) (hb : Below V.heap.size V X) : X.cell? p = some a ∧ X.cell? q = some b ∧ X.cell? r = some c ∧ X.cell? s = some d := ⟨cell_to h hb, cell_to k hb, cell_to l hb, cell_to m hb⟩
/-- a box within the frame, with an inside -/
def bxB (x0 y0 x1 y1 : Int) : Bool := decide (-1000 ≤ x0) && decide (x0 < x1) && decide (x1 ≤ 1000) && decide (-1000 ≤ y0) && decide (y0 < y1) && decide (y1 ≤ 1000)
theorem bx_iff (x0 y0 x1 y1 : Int) : bxB x0 y0 x1 y1 = true ↔ -1000 ≤ x0 ∧ x0 < x1 ∧ x1 ≤ 1000 ∧ -1000 ≤ y0 ∧ y0 < y1 ∧ y1 ≤ 1000 := by
  unfold bxB; simp only [Bool.and_eq_true, decide_eq_true_eq, and_assoc]
theorem bx_no {x0 y0 x1 y1 : Int} (h : ¬ (-1000 ≤ x0 ∧ x0 < x1 ∧ x1 ≤ 1000 ∧ -1000 ≤ y0 ∧ y0 < y1 ∧ y1 ≤ 1000)) : bxB x0 y0 x1 y1 = false := by
  rw [← Bool.not_eq_true, bx_iff]; exact h
/-- the half planes of a box -/
def bxL (x0 y0 x1 y1 : Int) : List H3 := if bxB x0 y0 x1 y1 = true then boxL x0 y0 x1 y1 else []
theorem bxL_no {x0 y0 x1 y1 : Int} (h : bxB x0 y0 x1 y1 = false) : bxL x0 y0 x1 y1 = [] := if_neg (by rw [h]; simp)
theorem box_poly {x0 y0 x1 y1 : Int} (hx : x0 < x1) (hy : y0 < y1) : Geo.Poly (boxL x0 y0 x1 y1) := by
  refine ⟨by simp [boxL], ?_, ?_, ?_⟩
  · intro e h; simp only [boxL, List.mem_cons, List.not_mem_nil, or_false] at h
    rcases h with rfl | rfl | rfl | rfl <;> simp [Geo.nz]
  · simp [boxL, Geo.bef, Geo.up]
  · intro p h
    simp only [Geo.cyc, boxL, Geo.prs, List.headD_cons, List.headD_nil, List.mem_cons, List.not_mem_nil, or_false] at h
    rcases h with rfl | rfl | rfl | rfl
    all_goals
      refine ⟨by simp [Geo.tn], ?_⟩
      intro e he n1 n2
      simp only [boxL, List.mem_cons, List.not_mem_nil, or_false] at he
      rcases he with rfl | rfl | rfl | rfl <;> first | exact absurd rfl n1 | exact absurd rfl n2 | (simp only [Geo.D]; omega)
theorem box_inv {x0 y0 x1 y1 : Int} (h : bxB x0 y0 x1 y1 = true) : Geo.Inv (boxL x0 y0 x1 y1) (boxL x0 y0 x1 y1 ++ Geo.frame) := by
  obtain ⟨h1, h2, h3, h4, h5, h6⟩ := (bx_iff _ _ _ _).1 h
  have P := box_poly h2 h5
  refine Or.inl ⟨P, fun x hx => List.mem_append_left _ hx, fun p hp g hg => ?_⟩
  rcases List.mem_append.1 hg with hg | hg
  · exact (P.2.2.2 p hp).le hg
  · simp only [Geo.cyc, boxL, Geo.prs, List.headD_cons, List.headD_nil, List.mem_cons, List.not_mem_nil, or_false] at hp
    simp only [Geo.frame, List.mem_cons, List.not_mem_nil, or_false] at hg
    rcases hp with rfl | rfl | rfl | rfl <;> rcases hg with rfl | rfl | rfl | rfl <;> (simp only [Geo.D]; omega)
theorem box_ok {x0 y0 x1 y1 : Int} (h : bxB x0 y0 x1 y1 = true) : (boxL x0 y0 x1 y1).all okB = true := by
  obtain ⟨h1, h2, h3, h4, h5, h6⟩ := (bx_iff _ _ _ _).1 h
  simp only [boxL, List.all_cons, List.all_nil, Bool.and_true, Bool.and_eq_true]
  have u : ∀ c : Int, Int.gcd 1 c = 1 := fun c => by simp [Int.gcd]
  have u2 : ∀ c : Int, Int.gcd (-1) c = 1 := fun c => by simp [Int.gcd]
  refine ⟨?_, ?_, ?_, ?_⟩
  all_goals
    unfold okB
    refine (okH_iff _ _ _).2 ?_
    simp [gS]
    try omega
theorem box_mod {x0 y0 x1 y1 : Int} (h : bxB x0 y0 x1 y1 = true) : modL (boxL x0 y0 x1 y1) = boxL x0 y0 x1 y1 := mod_of (box_ok h) (box_inv h)
/-- an answer of a box and whether it is one -/
def BoxW (w : World) (hs : List H3) (b : Bool) (e : Ending) (w' : World) : Prop := ∃ ao cp, e = .returned (.tuple #[.agg #[.slice ao hs.length cp], .bool b]) ∧ w'.ownsRow w.heap.size 104 3 (.slice ao hs.length cp) hs.length (flat hs) ∧ Below w.heap.size w w'
theorem BoxW.no {w w' : World} {x0 y0 x1 y1 : Int} (h : bxB x0 y0 x1 y1 = false) (hb : Below w.heap.size w w') : BoxW w (bxL x0 y0 x1 y1) (bxB x0 y0 x1 y1) (.returned (.tuple #[.agg #[.slice none 0 0], .bool false])) w' := by
  unfold BoxW
  rw [bxL_no h, h]
  exact ⟨none, 0, rfl, own3_none, hb⟩
theorem BoxW.yes {w w' : World} {x0 y0 x1 y1 : Int} {ao : Option Addr} {cp : Nat} (h : bxB x0 y0 x1 y1 = true) (ho : w'.ownsRow w.heap.size 104 3 (.slice ao 4 cp) 4 (flat (boxL x0 y0 x1 y1))) (hb : Below w.heap.size w w') : BoxW w (bxL x0 y0 x1 y1) (bxB x0 y0 x1 y1) (.returned (.tuple #[.agg #[.slice ao 4 cp], .bool true])) w' := by
  unfold BoxW
  rw [show bxL x0 y0 x1 y1 = boxL x0 y0 x1 y1 from if_pos h, h]
  exact ⟨ao, cp, rfl, ho, hb⟩
theorem in_true {n lo hi : Int} : inB n lo hi = true ↔ lo ≤ n ∧ n ≤ hi := by unfold inB; simp
theorem in_false {n lo hi : Int} : inB n lo hi = false ↔ ¬ (lo ≤ n ∧ n ≤ hi) := by rw [← in_true]; simp
set_option maxRecDepth 100000 in
set_option maxHeartbeats 3200000 in
theorem spec_box (x0 y0 x1 y1 : Int) (w : World) : Calls Tryz.prog 107 #[.int .i64 x0, .int .i64 y0, .int .i64 x1, .int .i64 y1] w (BoxW w (bxL x0 y0 x1 y1) (bxB x0 y0 x1 y1)) := by
  have bV := below_one w (.cells #[.slice none 0 0] 40)
  have q2 : (w.alloc (.cells #[.slice none 0 0] 40)).cell? ⟨w.heap.size, 0, none⟩ = some (.slice none 0 0) := by simp
  have f2 : (w.alloc (.cells #[.slice none 0 0] 40)).frozen? ⟨w.heap.size, 0, none⟩ = false := by simp
  have hzV : w.heap.size < (w.alloc (.cells #[.slice none 0 0] 40)).heap.size := by simp
  cases kA : inB x0 (-1000) 1000 with
  | false =>
    have HN := Lib.hid (show bxB x0 y0 x1 y1 = false from bx_no fun h => by have := in_false.1 kA; omega)
    have HA := Lib.hid (fun V => in_spec_is x0 (-1000) 1000 V false kA)
    clear kA
    go_enter Tryz.func107, Tryz.ntmps107
    go_wp2_with fail
    generalize w.alloc (.cells #[.slice none 0 0] 40) = V at *
    refine (HA.out _).mono ?_
    rintro e w1 ⟨rfl, rfl⟩
    go_wp2
    exact bodyPost_ret (v := .tuple #[.agg #[.slice none 0 0], .bool false]) (by simp [results, Tryz.results107, go_sem, q2]) rfl (BoxW.no HN.out (bV.setCell (Nat.le_refl _) _))
  | true =>
    cases kB : inB x1 (x0 + 1) 1000 with
    | false =>
      have HN := Lib.hid (show bxB x0 y0 x1 y1 = false from bx_no fun h => by have := in_false.1 kB; omega)
      have HA := Lib.hid (fun V => in_spec_is x0 (-1000) 1000 V true kA)
      obtain ⟨uA, vA⟩ := in_true.1 kA
      have HB := Lib.hid (fun V => in_spec_is x1 (x0 + 1) 1000 V false kB)
      clear kA kB
      go_enter Tryz.func107, Tryz.ntmps107
      go_wp2_with fail
      generalize w.alloc (.cells #[.slice none 0 0] 40) = V at *
      refine (HA.out _).mono ?_
      rintro e w1 ⟨rfl, rfl⟩
      go_wp2_with fail
      refine (HB.out _).mono ?_
      rintro e w1 ⟨rfl, rfl⟩
      go_wp2
      exact bodyPost_ret (v := .tuple #[.agg #[.slice none 0 0], .bool false]) (by simp [results, Tryz.results107, go_sem, q2]) rfl (BoxW.no HN.out (bV.setCell (Nat.le_refl _) _))
    | true =>
      cases kC : inB y0 (-1000) 1000 with
      | false =>
        have HN := Lib.hid (show bxB x0 y0 x1 y1 = false from bx_no fun h => by have := in_false.1 kC; omega)
        have HA := Lib.hid (fun V => in_spec_is x0 (-1000) 1000 V true kA)
        obtain ⟨uA, vA⟩ := in_true.1 kA
        have HB := Lib.hid (fun V => in_spec_is x1 (x0 + 1) 1000 V true kB)
        obtain ⟨uB, vB⟩ := in_true.1 kB
        have HC := Lib.hid (fun V => in_spec_is y0 (-1000) 1000 V false kC)
        clear kA kB kC
        go_enter Tryz.func107, Tryz.ntmps107
        go_wp2_with fail
        generalize w.alloc (.cells #[.slice none 0 0] 40) = V at *
        refine (HA.out _).mono ?_
        rintro e w1 ⟨rfl, rfl⟩
        go_wp2_with fail
        refine (HB.out _).mono ?_
        rintro e w1 ⟨rfl, rfl⟩
        go_wp2_with fail
        refine (HC.out _).mono ?_
        rintro e w1 ⟨rfl, rfl⟩
        go_wp2
        exact bodyPost_ret (v := .tuple #[.agg #[.slice none 0 0], .bool false]) (by simp [results, Tryz.results107, go_sem, q2]) rfl (BoxW.no HN.out (bV.setCell (Nat.le_refl _) _))
      | true =>
        cases kD : inB y1 (y0 + 1) 1000 with
        | false =>
          have HN := Lib.hid (show bxB x0 y0 x1 y1 = false from bx_no fun h => by have := in_false.1 kD; omega)
          have HA := Lib.hid (fun V => in_spec_is x0 (-1000) 1000 V true kA)
          obtain ⟨uA, vA⟩ := in_true.1 kA
          have HB := Lib.hid (fun V => in_spec_is x1 (x0 + 1) 1000 V true kB)
          obtain ⟨uB, vB⟩ := in_true.1 kB
          have HC := Lib.hid (fun V => in_spec_is y0 (-1000) 1000 V true kC)
          obtain ⟨uC, vC⟩ := in_true.1 kC
          have HD := Lib.hid (fun V => in_spec_is y1 (y0 + 1) 1000 V false kD)
          clear kA kB kC kD
          go_enter Tryz.func107, Tryz.ntmps107
          go_wp2_with fail
          generalize w.alloc (.cells #[.slice none 0 0] 40) = V at *
          refine (HA.out _).mono ?_
          rintro e w1 ⟨rfl, rfl⟩
          go_wp2_with fail
          refine (HB.out _).mono ?_
          rintro e w1 ⟨rfl, rfl⟩
          go_wp2_with fail
          refine (HC.out _).mono ?_
          rintro e w1 ⟨rfl, rfl⟩
          go_wp2_with fail
          refine (HD.out _).mono ?_
          rintro e w1 ⟨rfl, rfl⟩
          go_wp2
          exact bodyPost_ret (v := .tuple #[.agg #[.slice none 0 0], .bool false]) (by simp [results, Tryz.results107, go_sem, q2]) rfl (BoxW.no HN.out (bV.setCell (Nat.le_refl _) _))
        | true =>
          have hb : bxB x0 y0 x1 y1 = true := (bx_iff _ _ _ _).2 (by have := in_true.1 kA; have := in_true.1 kB; have := in_true.1 kC; have := in_true.1 kD; omega)
          have HN := Lib.hid hb
          have HM := Lib.hid (fun V a c (h : V.ownsRow w.heap.size 104 3 (.slice a 4 c) 4 (flat (boxL x0 y0 x1 y1))) => spec_make a 4 c (boxL x0 y0 x1 y1) V rfl (by omega) (box_ok hb) (own_nil h) (own_hs h))
          rw [box_mod hb] at HM
          have HA := Lib.hid (fun V => in_spec_is x0 (-1000) 1000 V true kA)
          obtain ⟨uA, vA⟩ := in_true.1 kA
          have HB := Lib.hid (fun V => in_spec_is x1 (x0 + 1) 1000 V true kB)
          obtain ⟨uB, vB⟩ := in_true.1 kB
          have HC := Lib.hid (fun V => in_spec_is y0 (-1000) 1000 V true kC)
          obtain ⟨uC, vC⟩ := in_true.1 kC
          have HD := Lib.hid (fun V => in_spec_is y1 (y0 + 1) 1000 V true kD)
          obtain ⟨uD, vD⟩ := in_true.1 kD
          clear kA kB kC kD hb
          go_enter Tryz.func107, Tryz.ntmps107
          go_wp2_with fail
          generalize w.alloc (.cells #[.slice none 0 0] 40) = V at *
          refine (HA.out _).mono ?_
          rintro e w1 ⟨rfl, rfl⟩
          go_wp2_with fail
          refine (HB.out _).mono ?_
          rintro e w1 ⟨rfl, rfl⟩
          go_wp2_with fail
          refine (HC.out _).mono ?_
          rintro e w1 ⟨rfl, rfl⟩
          go_wp2_with fail
          refine (HD.out _).mono ?_
          rintro e w1 ⟨rfl, rfl⟩
          go_wp2_with fail
          have O1 := Lib.hid (own3_new w1 _ 104 (boxL x0 y0 x1 y1) 4 _ rfl rfl (by unfold maxLen; omega) (Nat.le_of_lt hzV))
          refine (HM.out _ _ _ O1.out).mono ?_
          rintro e w2 ⟨a1, c1, rfl, ho1, bl1⟩
          have hz2 : w.heap.size < (w1.alloc (.cells #[.int .i64 1, .int .i64 0, .int .i64 x1, .int .i64 0, .int .i64 1, .int .i64 y1, .int .i64 (-1), .int .i64 0, .int .i64 (-x0), .int .i64 0, .int .i64 (-1), .int .i64 (-y0)] 104)).heap.size := by simp; omega
          have p3 := cell_to (cell_to q2 (below_one _ _)) bl1
          have g3 : w2.frozen? ⟨w.heap.size, 0, none⟩ = false := by rw [bl1.frozen hz2, (below_one _ _).frozen hzV]; exact f2
          have HW := Lib.hid (BoxW.yes HN.out (own_base (own_far (p := ⟨w.heap.size, 0, none⟩) ho1 hz2 (.slice a1 4 c1)) (Nat.le_of_lt hz2)) ((below_to (below_bx2 bV _) bl1).setCell (Nat.le_refl _) _))
          clear ho1
          go_wp2
          exact bodyPost_ret (v := .tuple #[.agg #[.slice a1 4 c1], .bool true]) (by simp [results, Tryz.results107, go_sem, p3, boxL]) rfl HW.out
end Go.Proofs.YtibkmhmeoelpdaaGreat
