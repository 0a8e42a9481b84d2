/- A region's points as integer inequalities: what regions made of half planes contain, and when one lies within another (no calls). -/
import Derived.Test.YtibkmhmeoelpdaaGreatWm
import Derived.Test.YtibkmhmeoelpdaaGreatEg
import Derived.Test.YtibkmhmeoelpdaaGreatCf
import Derived.Test.YtibkmhmeoelpdaaGreatMw
import Derived.Test.YtibkmhmeoelpdaaGreatGv
import Derived.Test.YtibkmhmeoelpdaaGreatVc
namespace Go.Proofs.YtibkmhmeoelpdaaGreat
open Go.RowKit
open Geo (H3)

/-- the edges of a list of valid half planes give themselves again -/
theorem regL_idem {hs : List H3} (h : hs.all okB = true) (n : regL hs ≠ []) : regL (regL hs) = regL hs := by
  have hE : (regL hs).all okB = true := List.all_eq_true.2 (regL_ok h)
  rcases regL_inv h with ⟨p, s, d⟩ | ⟨e, _⟩
  · rw [← mod_reg hE]
    refine mod_of hE (.inl ⟨p, fun x hx => List.mem_append_left _ hx, fun q hq g hg => d q hq g ?_⟩)
    rcases List.mem_append.1 hg with k | k
    · exact s g k
    · exact List.mem_append_left _ k
  · exact absurd e n
/-- such a region is valid -/
theorem rok_regL {hs : List H3} (h : hs.all okB = true) (l : (regL hs).length ≤ 40) : rokB (regL hs) = true := by
  by_cases n : regL hs = []
  · rw [n]; rfl
  · have hE : (regL hs).all okB = true := List.all_eq_true.2 (regL_ok h)
    have o : okF (regL hs) = true := by
      unfold okF
      rw [regL_idem h n, hE, decide_eq_true l]
      rfl
    unfold rokB regE sameB
    rw [o, if_pos rfl, regL_idem h n]
    simp
theorem reg_sub {hs : List H3} (h : hs.all okB = true) : ∀ e ∈ regL hs, e ∈ Geo.frame ++ hs := by
  rcases regL_inv h with ⟨_, s, _⟩ | ⟨e, _⟩
  · exact s
  · rw [e]; intro x hx; simp at hx
theorem side_valD {a b c x y d : Int} : sideV a b c x y d ≤ 0 ↔ Geo.val ⟨a, b, c⟩ x y d ≤ 0 := by
  unfold sideV Geo.val
  simp only
  split
  · omega
  · split <;> omega
theorem ok_lenF {hs : List H3} (h : okF hs = true) : hs.all okB = true ∧ (regL hs).length ≤ 40 ∧ regE hs = regL hs := by
  have e : regE hs = regL hs := by unfold regE; rw [if_pos h]
  unfold okF at h
  simp only [Bool.and_eq_true, decide_eq_true_eq] at h
  exact ⟨h.1.2, h.2, e⟩
/-- a moved region that is not refused: its half planes are all there, and it is valid -/
theorem mv_facts {B : H3 → Bool} {M : H3 → H3} {fu ps : List H3} (n : ps ≠ []) (h : mvB B M fu ps = true) : ps.all B = true ∧ mvL B M fu ps = regL (fu ++ ps.map M) ∧ (fu ++ ps.map M).all okB = true ∧ (regL (fu ++ ps.map M)).length ≤ 40 := by
  have h' := h
  unfold mvB at h
  simp only [Bool.or_eq_true, Bool.and_eq_true, decide_eq_true_eq] at h
  obtain ⟨a, o⟩ := h.resolve_left n
  obtain ⟨o1, o2, _⟩ := ok_lenF o
  refine ⟨a, ?_, o1, o2⟩
  unfold mvL
  rw [if_pos ⟨h', n⟩]
/-- the spots of a region lie in the region of half planes that hold them all -/
theorem within_of {ps hs : List H3} (r : rokB ps = true) (h : hs.all okB = true) (l : (regL hs).length ≤ 40) (k : ps ≠ [] → regL hs ≠ [] ∧ ∀ X Y W : Int, 0 < W → (∀ e ∈ ps, Geo.val e X Y W ≤ 0) → ∀ g ∈ hs, Geo.val g X Y W ≤ 0) : wiB ps (regL hs) = true := by
  unfold wiB
  rw [r, rok_regL h l, Bool.and_self, Bool.true_and]
  by_cases n : ps = []
  · rw [decide_eq_true n, Bool.true_or]
  · obtain ⟨k1, k2⟩ := k n
    rw [decide_eq_true k1, Bool.true_and, Bool.or_eq_true]
    refine .inr (List.all_eq_true.2 fun c hc => ?_)
    unfold corR at hc
    rw [if_pos r] at hc
    obtain ⟨i, hi, rfl⟩ := List.getElem_of_mem hc
    have hi' : i < ps.length := by rwa [corL_len] at hi
    have e : (corL ps ps.length)[i] = crA ps i := by
      have := corL_get ps hi'
      rw [List.getElem?_eq_getElem hi] at this
      exact Option.some.inj this
    rw [e]
    obtain ⟨o, c1, ins, _⟩ := cnr_facts r n hi'
    unfold ahB
    rw [List.all_eq_true]
    intro g hg
    rw [decide_eq_true_eq, side_valD]
    rcases List.mem_append.1 (reg_sub h g hg) with m | m
    · exact ins g (List.mem_append_left _ m)
    · exact k2 _ _ _ (by omega) (fun e he => ins e (List.mem_append_right _ he)) g m
theorem within_rok {ps qs : List H3} (r : rokB ps = true) (q : rokB qs = true) (nq : qs ≠ []) (k : ps ≠ [] → ∀ X Y W : Int, 0 < W → (∀ e ∈ ps, Geo.val e X Y W ≤ 0) → ∀ g ∈ qs, Geo.val g X Y W ≤ 0) : wiB ps qs = true := by
  have e := rok_reg q nq
  have := within_of r (rok_allB q) (by rw [e]; exact rok_len q) (fun n => ⟨by rw [e]; exact nq, k n⟩)
  rwa [e] at this
end Go.Proofs.YtibkmhmeoelpdaaGreat
