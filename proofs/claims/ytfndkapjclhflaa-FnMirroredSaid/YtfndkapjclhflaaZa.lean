/- What a region made of valid half planes contains. -/
import Derived.Test.YtfndkapjclhflaaWm
import Derived.Test.YtfndkapjclhflaaEg
namespace Go.Proofs.Ytfndkapjclhflaa
open Go.RowKit
open Geo (H3)

/-- the edges of a list of valid half planes give themselves again -/
theorem regL_idem {hs : List H3} (h : hs.all okB = true) (n : regL hs ≠ []) : regL (regL hs) = regL hs := by
  have hE : (regL hs).all okB = true := List.all_eq_true.2 (regL_ok h)
  rcases regL_inv h with ⟨p, s, d⟩ | ⟨e, _⟩
  · rw [← mod_reg hE]
    refine mod_of hE (.inl ⟨p, fun x hx => List.mem_append_left _ hx, fun q hq g hg => d q hq g ?_⟩)
    rcases List.mem_append.1 hg with k | k
    · exact s g k
    · exact List.mem_append_left _ k
  · exact absurd e n
/-- such a region is valid -/
theorem rok_regL {hs : List H3} (h : hs.all okB = true) (l : (regL hs).length ≤ 40) : rokB (regL hs) = true := by
  by_cases n : regL hs = []
  · rw [n]; rfl
  · have hE : (regL hs).all okB = true := List.all_eq_true.2 (regL_ok h)
    have o : okF (regL hs) = true := by
      unfold okF
      rw [regL_idem h n, hE, decide_eq_true l]
      rfl
    unfold rokB regE sameB
    rw [o, if_pos rfl, regL_idem h n]
    simp
theorem side_val {a b c x y : Int} : sideV a b c x y 1 ≤ 0 ↔ Geo.val ⟨a, b, c⟩ x y 1 ≤ 0 := by
  unfold sideV Geo.val
  simp only
  split
  · omega
  · split <;> omega
theorem side_lt {a b c x y : Int} : sideV a b c x y 1 = -1 ↔ Geo.val ⟨a, b, c⟩ x y 1 < 0 := by
  unfold sideV Geo.val
  simp only
  split
  · omega
  · split <;> omega
theorem whole_ok {x y : Int} (hx : -1000 ≤ x ∧ x ≤ 1000) (hy : -1000 ≤ y ∧ y ≤ 1000) : okS x y 1 = true := by
  rw [okS_yes (by omega) (by omega) (by omega) (by omega) (by omega) (by omega)]
  unfold gS
  simp
theorem hold_val {h : H3} {x y : Int} (k : okB h = true) (o : okS x y 1 = true) : holdH h.a h.b h.c x y 1 = decide (Geo.val h x y 1 ≤ 0) := by
  unfold holdH
  rw [show okH h.a h.b h.c = true from k, o]
  simp only [Bool.true_and, decide_eq_decide]
  exact side_val
/-- a spot of the region lies in all half planes -/
theorem has_all {hs : List H3} (h : hs.all okB = true) {x y : Int} (o : okS x y 1 = true) (k : hasB (regL hs) x y 1 = true) : ∀ g ∈ hs, Geo.val g x y 1 ≤ 0 := by
  unfold hasB at k
  simp only [Bool.and_eq_true, decide_eq_true_eq] at k
  obtain ⟨⟨_, n⟩, a⟩ := k
  rw [List.all_eq_true] at a
  intro g hg
  rcases regL_inv h with ⟨p, s, d⟩ | ⟨e, _⟩
  · refine Geo.inside_of p (okB_nz (List.all_eq_true.1 h g hg)) (fun q hq => d q hq g (List.mem_append_right _ hg)) (by omega) ?_
    intro e he
    have := a e he
    rw [hold_val (regL_ok h e he) o, decide_eq_true_eq] at this
    exact this
  · exact absurd e n
theorem frame_in {x y : Int} (hx : -1000 ≤ x ∧ x ≤ 1000) (hy : -1000 ≤ y ∧ y ≤ 1000) : ∀ g ∈ Geo.frame, Geo.val g x y 1 ≤ 0 := by
  intro g hg
  unfold Geo.frame at hg
  simp only [List.mem_cons, List.not_mem_nil, or_false] at hg
  rcases hg with rfl | rfl | rfl | rfl <;> unfold Geo.val <;> simp only <;> omega
/-- a spot of the frame that lies in all half planes lies in the region, if there is one -/
theorem all_has {hs : List H3} (h : hs.all okB = true) (l : (regL hs).length ≤ 40) (n : regL hs ≠ []) {x y : Int} (hx : -1000 ≤ x ∧ x ≤ 1000) (hy : -1000 ≤ y ∧ y ≤ 1000) (a : ∀ g ∈ hs, Geo.val g x y 1 ≤ 0) : hasB (regL hs) x y 1 = true := by
  unfold hasB
  rw [rok_regL h l, decide_eq_true n, Bool.true_and, Bool.true_and, List.all_eq_true]
  intro e he
  rw [hold_val (regL_ok h e he) (whole_ok hx hy), decide_eq_true_eq]
  rcases regL_inv h with ⟨_, s, _⟩ | ⟨e0, _⟩
  · rcases List.mem_append.1 (s e he) with k | k
    · exact frame_in hx hy e k
    · exact a e k
  · exact absurd e0 n
/-- a spot well within all half planes: there is a region -/
theorem strict_some {hs : List H3} (h : hs.all okB = true) {x y : Int} (hx : -999 ≤ x ∧ x ≤ 999) (hy : -999 ≤ y ∧ y ≤ 999) (a : ∀ g ∈ hs, Geo.val g x y 1 < 0) : regL hs ≠ [] := by
  intro e
  rcases regL_inv h with ⟨p, _, _⟩ | ⟨_, f, nf, hf⟩
  · have := p.1
    rw [e] at this
    simp at this
  · have hok : ∀ g ∈ Geo.frame ++ hs, okB g = true := by
      intro g hg
      rcases List.mem_append.1 hg with k | k
      · exact frame_ok g k
      · exact List.all_eq_true.1 h g k
    have hs' : ∀ g ∈ Geo.frame ++ hs, Geo.val g x y 1 < 0 := by
      intro g hg
      rcases List.mem_append.1 hg with k | k
      · unfold Geo.frame at k
        simp only [List.mem_cons, List.not_mem_nil, or_false] at k
        rcases k with rfl | rfl | rfl | rfl <;> unfold Geo.val <;> simp only <;> omega
      · exact a g k
    have near : ∀ i j : Int, -1 ≤ i → i ≤ 1 → -1 ≤ j → j ≤ 1 → Geo.val f (100001 * x + i) (100001 * y + j) 100001 = 0 := by
      intro i j i1 i2 j1 j2
      refine hf _ _ _ (by omega) (fun g hg => ?_)
      have k := hs' g hg
      obtain ⟨ga, gb, _, _⟩ := ok_in (hok g hg)
      unfold Geo.val at *
      unfold In5 at ga gb
      have e1 : g.a * (100001 * x + i) + g.b * (100001 * y + j) - g.c * 100001 = 100001 * (g.a * x + g.b * y - g.c * 1) + g.a * i + g.b * j := by grind
      rw [e1]
      have m1 : g.a * i ≤ 50000 := by
        rcases (by omega : i = -1 ∨ i = 0 ∨ i = 1) with rfl | rfl | rfl <;> omega
      have m2 : g.b * j ≤ 50000 := by
        rcases (by omega : j = -1 ∨ j = 0 ∨ j = 1) with rfl | rfl | rfl <;> omega
      generalize g.a * x + g.b * y - g.c * 1 = v at *
      omega
    have n0 := near 0 0 (by omega) (by omega) (by omega) (by omega)
    have n1 := near 1 0 (by omega) (by omega) (by omega) (by omega)
    have n2 := near 0 1 (by omega) (by omega) (by omega) (by omega)
    unfold Geo.val at n0 n1 n2
    unfold Geo.nz at nf
    have a0 : f.a = 0 := by grind
    have b0 : f.b = 0 := by grind
    omega
end Go.Proofs.Ytfndkapjclhflaa
