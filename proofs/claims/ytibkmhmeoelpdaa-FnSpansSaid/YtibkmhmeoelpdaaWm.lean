/- The contract of the spec's HasSpot over the translation, and the walk of its law. The contracts of both BoxRegion functions over the translation, and the walk of their law. The contracts of both WholeSpots functions over the translation, and the walk of their law. -/
import Derived.Test.YtibkmhmeoelpdaaRm
import Derived.Test.YtibkmhmeoelpdaaVs
namespace Go.Proofs.Ytibkmhmeoelpdaa
open Go.RowKit
open Geo (H3)

theorem has_sno {hs : List H3} {x y d : Int} (h : okS x y d = false) : hasB hs x y d = false := by
  unfold hasB
  by_cases h0 : hs = []
  · simp [h0]
  · obtain ⟨z, hz⟩ := List.exists_mem_of_ne_nil hs h0
    rw [Bool.and_eq_false_iff]
    exact Or.inr (by rw [List.all_eq_false]; exact ⟨z, hz, by simp [holdH, h]⟩)
theorem has_lha {hs : List H3} {x y d : Int} (h : rokB hs = true) (k : okS x y d = true) : hasB hs x y d = lhaB hs x y d := by
  unfold hasB lhaB
  rw [h, Bool.true_and, Bool.and_comm]
  refine congrArg (· && decide (hs ≠ [])) ?_
  refine Bool.eq_iff_iff.2 ?_
  simp only [List.all_eq_true]
  refine forall_congr' fun z => forall_congr' fun hz => ?_
  have := rok_all h z hz
  unfold okB at this
  unfold holdH
  rw [this, k]; rfl
theorem fourc {V X : World} {p q r s : Addr} {a b c d : Value} (h : V.cell? p = some a) (k : V.cell? q = some b) (l : V.cell? r = some c) (m : V.cell? s = some d) (hb : Below V.heap.size V X) : X.cell? p = some a ∧ X.cell? q = some b ∧ X.cell? r = some c ∧ X.cell? s = some d := ⟨cell_to h hb, cell_to k hb, cell_to l hb, cell_to m hb⟩
/-- a box within the frame, with an inside -/
def bxB (x0 y0 x1 y1 : Int) : Bool := decide (-1000 ≤ x0) && decide (x0 < x1) && decide (x1 ≤ 1000) && decide (-1000 ≤ y0) && decide (y0 < y1) && decide (y1 ≤ 1000)
theorem bx_iff (x0 y0 x1 y1 : Int) : bxB x0 y0 x1 y1 = true ↔ -1000 ≤ x0 ∧ x0 < x1 ∧ x1 ≤ 1000 ∧ -1000 ≤ y0 ∧ y0 < y1 ∧ y1 ≤ 1000 := by
  unfold bxB; simp only [Bool.and_eq_true, decide_eq_true_eq, and_assoc]
theorem bx_no {x0 y0 x1 y1 : Int} (h : ¬ (-1000 ≤ x0 ∧ x0 < x1 ∧ x1 ≤ 1000 ∧ -1000 ≤ y0 ∧ y0 < y1 ∧ y1 ≤ 1000)) : bxB x0 y0 x1 y1 = false := by
  rw [← Bool.not_eq_true, bx_iff]; exact h
/-- the half planes of a box -/
def bxL (x0 y0 x1 y1 : Int) : List H3 := if bxB x0 y0 x1 y1 = true then boxL x0 y0 x1 y1 else []
theorem bxL_no {x0 y0 x1 y1 : Int} (h : bxB x0 y0 x1 y1 = false) : bxL x0 y0 x1 y1 = [] := if_neg (by rw [h]; simp)
theorem bxL_len (x0 y0 x1 y1 : Int) : (bxL x0 y0 x1 y1).length ≤ 4 := by unfold bxL; split <;> simp [boxL]
theorem box_poly {x0 y0 x1 y1 : Int} (hx : x0 < x1) (hy : y0 < y1) : Geo.Poly (boxL x0 y0 x1 y1) := by
  refine ⟨by simp [boxL], ?_, ?_, ?_⟩
  · intro e h; simp only [boxL, List.mem_cons, List.not_mem_nil, or_false] at h
    rcases h with rfl | rfl | rfl | rfl <;> simp [Geo.nz]
  · simp [boxL, Geo.bef, Geo.up]
  · intro p h
    simp only [Geo.cyc, boxL, Geo.prs, List.headD_cons, List.headD_nil, List.mem_cons, List.not_mem_nil, or_false] at h
    rcases h with rfl | rfl | rfl | rfl
    all_goals
      refine ⟨by simp [Geo.tn], ?_⟩
      intro e he n1 n2
      simp only [boxL, List.mem_cons, List.not_mem_nil, or_false] at he
      rcases he with rfl | rfl | rfl | rfl <;> first | exact absurd rfl n1 | exact absurd rfl n2 | (simp only [Geo.D]; omega)
theorem box_inv {x0 y0 x1 y1 : Int} (h : bxB x0 y0 x1 y1 = true) : Geo.Inv (boxL x0 y0 x1 y1) (boxL x0 y0 x1 y1 ++ Geo.frame) := by
  obtain ⟨h1, h2, h3, h4, h5, h6⟩ := (bx_iff _ _ _ _).1 h
  have P := box_poly h2 h5
  refine Or.inl ⟨P, fun x hx => List.mem_append_left _ hx, fun p hp g hg => ?_⟩
  rcases List.mem_append.1 hg with hg | hg
  · exact (P.2.2.2 p hp).le hg
  · simp only [Geo.cyc, boxL, Geo.prs, List.headD_cons, List.headD_nil, List.mem_cons, List.not_mem_nil, or_false] at hp
    simp only [Geo.frame, List.mem_cons, List.not_mem_nil, or_false] at hg
    rcases hp with rfl | rfl | rfl | rfl <;> rcases hg with rfl | rfl | rfl | rfl <;> (simp only [Geo.D]; omega)
theorem box_ok {x0 y0 x1 y1 : Int} (h : bxB x0 y0 x1 y1 = true) : (boxL x0 y0 x1 y1).all okB = true := by
  obtain ⟨h1, h2, h3, h4, h5, h6⟩ := (bx_iff _ _ _ _).1 h
  simp only [boxL, List.all_cons, List.all_nil, Bool.and_true, Bool.and_eq_true]
  have u : ∀ c : Int, Int.gcd 1 c = 1 := fun c => by simp [Int.gcd]
  have u2 : ∀ c : Int, Int.gcd (-1) c = 1 := fun c => by simp [Int.gcd]
  refine ⟨?_, ?_, ?_, ?_⟩
  all_goals
    unfold okB
    refine (okH_iff _ _ _).2 ?_
    simp [gS]
    try omega
theorem box_mod {x0 y0 x1 y1 : Int} (h : bxB x0 y0 x1 y1 = true) : modL (boxL x0 y0 x1 y1) = boxL x0 y0 x1 y1 := mod_of (box_ok h) (box_inv h)
/-- an answer of a box and whether it is one -/
def BoxW (w : World) (hs : List H3) (b : Bool) (e : Ending) (w' : World) : Prop := ∃ ao cp, e = .returned (.tuple #[.agg #[.slice ao hs.length cp], .bool b]) ∧ w'.ownsRow w.heap.size 60 3 (.slice ao hs.length cp) hs.length (flat hs) ∧ Below w.heap.size w w'
theorem BoxW.no {w w' : World} {x0 y0 x1 y1 : Int} (h : bxB x0 y0 x1 y1 = false) (hb : Below w.heap.size w w') : BoxW w (bxL x0 y0 x1 y1) (bxB x0 y0 x1 y1) (.returned (.tuple #[.agg #[.slice none 0 0], .bool false])) w' := by
  unfold BoxW
  rw [bxL_no h, h]
  exact ⟨none, 0, rfl, own3_none, hb⟩
theorem BoxW.yes {w w' : World} {x0 y0 x1 y1 : Int} {ao : Option Addr} {cp : Nat} (h : bxB x0 y0 x1 y1 = true) (ho : w'.ownsRow w.heap.size 60 3 (.slice ao 4 cp) 4 (flat (boxL x0 y0 x1 y1))) (hb : Below w.heap.size w w') : BoxW w (bxL x0 y0 x1 y1) (bxB x0 y0 x1 y1) (.returned (.tuple #[.agg #[.slice ao 4 cp], .bool true])) w' := by
  unfold BoxW
  rw [show bxL x0 y0 x1 y1 = boxL x0 y0 x1 y1 from if_pos h, h]
  exact ⟨ao, cp, rfl, ho, hb⟩
theorem in_true {n lo hi : Int} : inB n lo hi = true ↔ lo ≤ n ∧ n ≤ hi := by unfold inB; simp
theorem in_false {n lo hi : Int} : inB n lo hi = false ↔ ¬ (lo ≤ n ∧ n ≤ hi) := by rw [← in_true]; simp
/-- one half plane limits a column -/
def colS (x : Int) (s : Int × Int) (h : H3) : Int × Int :=
  if 0 < h.b then (s.1, min s.2 ((h.c - h.a * x) / h.b)) else if h.b < 0 then (max s.1 (-((h.c - h.a * x) / (-h.b))), s.2) else if h.c - h.a * x < 0 then (s.1, s.1 - 1) else s
def colF (x : Int) (hs : List H3) : Int × Int := hs.foldl (colS x) (-1000, 1000)
def colOk (s : Int × Int) : Prop := -1000 ≤ s.1 ∧ s.1 ≤ 300000000 ∧ -300000000 ≤ s.2 ∧ s.2 ≤ 300000000
theorem mul_bnd {a x : Int} (h1 : -50000 ≤ a) (h2 : a ≤ 50000) (h3 : -1000 ≤ x) (h4 : x ≤ 1000) : -50000000 ≤ a * x ∧ a * x ≤ 50000000 := by
  rcases Int.le_total 0 x with h | h
  · have k1 : -50000 * x ≤ a * x := Int.mul_le_mul_of_nonneg_right h1 h
    have k2 : a * x ≤ 50000 * x := Int.mul_le_mul_of_nonneg_right h2 h
    omega
  · have k1 : a * x ≤ -50000 * x := Int.mul_le_mul_of_nonpos_right h1 h
    have k2 : 50000 * x ≤ a * x := Int.mul_le_mul_of_nonpos_right h2 h
    omega
theorem div_bnd {a b : Int} (hb : 0 < b) (h1 : -150000000 ≤ a) (h2 : a ≤ 150000000) : -150000000 ≤ a / b ∧ a / b ≤ 150000000 := by
  constructor
  · refine (Int.le_ediv_iff_mul_le hb).2 ?_
    have : -150000000 * b ≤ -150000000 * 1 := Int.mul_le_mul_of_nonpos_left (by omega) (by omega)
    omega
  · have : a / b < 150000001 := by
      refine (Int.ediv_lt_iff_lt_mul hb).2 ?_
      have : 150000001 * 1 ≤ 150000001 * b := Int.mul_le_mul_of_nonneg_left (by omega) (by omega)
      omega
    omega
theorem okB_bnd {h : H3} (k : okB h = true) : -50000 ≤ h.a ∧ h.a ≤ 50000 ∧ -50000 ≤ h.b ∧ h.b ≤ 50000 ∧ -100000000 ≤ h.c ∧ h.c ≤ 100000000 := by
  obtain ⟨h1, h2, h3, h4, _, h6, h7, _⟩ := (okH_iff _ _ _).1 k
  exact ⟨h1, h2, h3, h4, h6, h7⟩
theorem colS_ok {x : Int} {s : Int × Int} {h : H3} (hx : -1000 ≤ x) (hx2 : x ≤ 1000) (hs : colOk s) (k : okB h = true) : colOk (colS x s h) := by
  obtain ⟨h1, h2, h3, h4, h5, h6⟩ := okB_bnd k
  obtain ⟨m1, m2⟩ := mul_bnd h1 h2 hx hx2
  obtain ⟨s1, s2, s3, s4⟩ := hs
  unfold colS
  split
  · rename_i hb
    have := div_bnd (a := h.c - h.a * x) hb (by omega) (by omega)
    refine ⟨s1, s2, ?_, ?_⟩ <;> simp only <;> omega
  · split
    · rename_i hb
      have := div_bnd (a := h.c - h.a * x) (b := -h.b) (by omega) (by omega) (by omega)
      refine ⟨?_, ?_, s3, s4⟩ <;> simp only <;> omega
    · split
      · refine ⟨s1, s2, ?_, ?_⟩ <;> simp only <;> omega
      · exact ⟨s1, s2, s3, s4⟩
theorem colF_ok {x : Int} {hs : List H3} (hx : -1000 ≤ x) (hx2 : x ≤ 1000) (k : ∀ h ∈ hs, okB h = true) : colOk (colF x hs) := by
  have : ∀ (l : List H3) (s : Int × Int), (∀ h ∈ l, okB h = true) → colOk s → colOk (l.foldl (colS x) s) := by
    intro l
    induction l with
    | nil => intro s _ h; exact h
    | cons a l ih => intro s hl h; exact ih _ (fun z hz => hl z (List.mem_cons_of_mem _ hz)) (colS_ok hx hx2 h (hl a (List.mem_cons_self ..)))
  exact this hs _ k ⟨by simp, by simp, by simp, by simp⟩
theorem colF_next {x : Int} {hs : List H3} {k : Nat} {z : H3} (h : hs[k]? = some z) : colF x (hs.take (k + 1)) = colS x (colF x (hs.take k)) z := by
  unfold colF
  rw [List.take_add_one, h]; simp
def cntF (hs : List H3) : Nat → Int
  | 0 => 0
  | k + 1 => cntF hs k + max ((colF (-1000 + k) hs).2 - (colF (-1000 + k) hs).1 + 1) 0
theorem cntF_bnd {hs : List H3} (h : ∀ h ∈ hs, okB h = true) (k : Nat) (hk : k ≤ 2001) : 0 ≤ cntF hs k ∧ cntF hs k ≤ 400000000 * k := by
  induction k with
  | zero => simp [cntF]
  | succ k ih =>
    have := ih (by omega)
    obtain ⟨a, b, c, d⟩ := colF_ok (x := -1000 + k) (by omega) (by omega) h
    unfold cntF
    omega
theorem col_pos {x lo hi : Int} {z : H3} (h : 0 < z.b) : colS x (lo, hi) z = (lo, min hi ((z.c - z.a * x) / z.b)) := if_pos h
theorem col_neg {x lo hi : Int} {z : H3} (h : z.b < 0) : colS x (lo, hi) z = (max lo (-((z.c - z.a * x) / (-z.b))), hi) := by unfold colS; rw [if_neg (by omega), if_pos h]
theorem col_out {x lo hi : Int} {z : H3} (h : z.b = 0) (k : z.c - z.a * x < 0) : colS x (lo, hi) z = (lo, lo - 1) := by unfold colS; rw [if_neg (by omega), if_neg (by omega), if_pos k]
theorem col_in {x lo hi : Int} {z : H3} (h : z.b = 0) (k : ¬ z.c - z.a * x < 0) : colS x (lo, hi) z = (lo, hi) := by unfold colS; rw [if_neg (by omega), if_neg (by omega), if_neg k]
theorem min_if (a b : Int) : min a b = if b < a then b else a := by split <;> omega
theorem max_if (a b : Int) : max a b = if a < b then b else a := by split <;> omega
/-- the answer -/
def whoN (hs : List H3) : Int := if rokB hs = true ∧ hs ≠ [] then cntF hs 2001 else 0
theorem who_nil {hs : List H3} {n : Nat} (hl : hs.length = n) (h : n = 0) : whoN hs = 0 := by
  have : hs = [] := List.eq_nil_of_length_eq_zero (by omega)
  unfold whoN; simp [this]
theorem who_rok {hs : List H3} (h : rokB hs = false) : whoN hs = 0 := by unfold whoN; simp [h]
theorem who_pos {hs : List H3} {n : Nat} (hl : hs.length = n) (h : n ≠ 0) (r : rokB hs = true) : whoN hs = cntF hs 2001 := by
  have : hs ≠ [] := by rintro rfl; simp at hl; omega
  unfold whoN; simp [r, this]
end Go.Proofs.Ytibkmhmeoelpdaa
