/- The contracts of both BoxRegion functions over the translation, and the walk of their law. -/
import Derived.Test.YtobmaajfdpcfmaaHt
namespace Go.Proofs.Ytobmaajfdpcfmaa
open Go.RowKit
open Geo (H3)

/-- a box within the frame, with an inside -/
def bxB (x0 y0 x1 y1 : Int) : Bool := decide (-1000 ≤ x0) && decide (x0 < x1) && decide (x1 ≤ 1000) && decide (-1000 ≤ y0) && decide (y0 < y1) && decide (y1 ≤ 1000)
theorem bx_iff (x0 y0 x1 y1 : Int) : bxB x0 y0 x1 y1 = true ↔ -1000 ≤ x0 ∧ x0 < x1 ∧ x1 ≤ 1000 ∧ -1000 ≤ y0 ∧ y0 < y1 ∧ y1 ≤ 1000 := by
  unfold bxB; simp only [Bool.and_eq_true, decide_eq_true_eq, and_assoc]
theorem bx_no {x0 y0 x1 y1 : Int} (h : ¬ (-1000 ≤ x0 ∧ x0 < x1 ∧ x1 ≤ 1000 ∧ -1000 ≤ y0 ∧ y0 < y1 ∧ y1 ≤ 1000)) : bxB x0 y0 x1 y1 = false := by
  rw [← Bool.not_eq_true, bx_iff]; exact h
/-- the half planes of a box -/
def bxL (x0 y0 x1 y1 : Int) : List H3 := if bxB x0 y0 x1 y1 = true then boxL x0 y0 x1 y1 else []
theorem bxL_no {x0 y0 x1 y1 : Int} (h : bxB x0 y0 x1 y1 = false) : bxL x0 y0 x1 y1 = [] := if_neg (by rw [h]; simp)
theorem bxL_len (x0 y0 x1 y1 : Int) : (bxL x0 y0 x1 y1).length ≤ 4 := by unfold bxL; split <;> simp [boxL]
theorem box_poly {x0 y0 x1 y1 : Int} (hx : x0 < x1) (hy : y0 < y1) : Geo.Poly (boxL x0 y0 x1 y1) := by
  refine ⟨by simp [boxL], ?_, ?_, ?_⟩
  · intro e h; simp only [boxL, List.mem_cons, List.not_mem_nil, or_false] at h
    rcases h with rfl | rfl | rfl | rfl <;> simp [Geo.nz]
  · simp [boxL, Geo.bef, Geo.up]
  · intro p h
    simp only [Geo.cyc, boxL, Geo.prs, List.headD_cons, List.headD_nil, List.mem_cons, List.not_mem_nil, or_false] at h
    rcases h with rfl | rfl | rfl | rfl
    all_goals
      refine ⟨by simp [Geo.tn], ?_⟩
      intro e he n1 n2
      simp only [boxL, List.mem_cons, List.not_mem_nil, or_false] at he
      rcases he with rfl | rfl | rfl | rfl <;> first | exact absurd rfl n1 | exact absurd rfl n2 | (simp only [Geo.D]; omega)
theorem box_inv {x0 y0 x1 y1 : Int} (h : bxB x0 y0 x1 y1 = true) : Geo.Inv (boxL x0 y0 x1 y1) (boxL x0 y0 x1 y1 ++ Geo.frame) := by
  obtain ⟨h1, h2, h3, h4, h5, h6⟩ := (bx_iff _ _ _ _).1 h
  have P := box_poly h2 h5
  refine Or.inl ⟨P, fun x hx => List.mem_append_left _ hx, fun p hp g hg => ?_⟩
  rcases List.mem_append.1 hg with hg | hg
  · exact (P.2.2.2 p hp).le hg
  · simp only [Geo.cyc, boxL, Geo.prs, List.headD_cons, List.headD_nil, List.mem_cons, List.not_mem_nil, or_false] at hp
    simp only [Geo.frame, List.mem_cons, List.not_mem_nil, or_false] at hg
    rcases hp with rfl | rfl | rfl | rfl <;> rcases hg with rfl | rfl | rfl | rfl <;> (simp only [Geo.D]; omega)
theorem box_ok {x0 y0 x1 y1 : Int} (h : bxB x0 y0 x1 y1 = true) : (boxL x0 y0 x1 y1).all okB = true := by
  obtain ⟨h1, h2, h3, h4, h5, h6⟩ := (bx_iff _ _ _ _).1 h
  simp only [boxL, List.all_cons, List.all_nil, Bool.and_true, Bool.and_eq_true]
  have u : ∀ c : Int, Int.gcd 1 c = 1 := fun c => by simp [Int.gcd]
  have u2 : ∀ c : Int, Int.gcd (-1) c = 1 := fun c => by simp [Int.gcd]
  refine ⟨?_, ?_, ?_, ?_⟩
  all_goals
    unfold okB
    refine (okH_iff _ _ _).2 ?_
    simp [gS]
    try omega
theorem box_mod {x0 y0 x1 y1 : Int} (h : bxB x0 y0 x1 y1 = true) : modL (boxL x0 y0 x1 y1) = boxL x0 y0 x1 y1 := mod_of (box_ok h) (box_inv h)
/-- an answer of a box and whether it is one -/
def BoxW (w : World) (hs : List H3) (b : Bool) (e : Ending) (w' : World) : Prop := ∃ ao cp, e = .returned (.tuple #[.agg #[.slice ao hs.length cp], .bool b]) ∧ w'.ownsRow w.heap.size 34 3 (.slice ao hs.length cp) hs.length (flat hs) ∧ Below w.heap.size w w'
theorem BoxW.no {w w' : World} {x0 y0 x1 y1 : Int} (h : bxB x0 y0 x1 y1 = false) (hb : Below w.heap.size w w') : BoxW w (bxL x0 y0 x1 y1) (bxB x0 y0 x1 y1) (.returned (.tuple #[.agg #[.slice none 0 0], .bool false])) w' := by
  unfold BoxW
  rw [bxL_no h, h]
  exact ⟨none, 0, rfl, own3_none, hb⟩
theorem BoxW.yes {w w' : World} {x0 y0 x1 y1 : Int} {ao : Option Addr} {cp : Nat} (h : bxB x0 y0 x1 y1 = true) (ho : w'.ownsRow w.heap.size 34 3 (.slice ao 4 cp) 4 (flat (boxL x0 y0 x1 y1))) (hb : Below w.heap.size w w') : BoxW w (bxL x0 y0 x1 y1) (bxB x0 y0 x1 y1) (.returned (.tuple #[.agg #[.slice ao 4 cp], .bool true])) w' := by
  unfold BoxW
  rw [show bxL x0 y0 x1 y1 = boxL x0 y0 x1 y1 from if_pos h, h]
  exact ⟨ao, cp, rfl, ho, hb⟩
theorem in_true {n lo hi : Int} : inB n lo hi = true ↔ lo ≤ n ∧ n ≤ hi := by unfold inB; simp
theorem in_false {n lo hi : Int} : inB n lo hi = false ↔ ¬ (lo ≤ n ∧ n ≤ hi) := by rw [← in_true]; simp
end Go.Proofs.Ytobmaajfdpcfmaa
