/- Regions of drawn half planes: what is known of them (no calls). -/
import Derived.Test.YtfndkapjclhflaaZa
import Derived.Test.YtfndkapjclhflaaCf
import Derived.Test.YtfndkapjclhflaaMf
namespace Go.Proofs.Ytfndkapjclhflaa
open Go.RowKit
open Geo (H3)

theorem reg_eq {hs E : List H3} (hok : hs.all okB = true) (i : Geo.Inv E (hs ++ Geo.frame)) : regL hs = E := by
  rw [← mod_reg hok]
  exact mod_of hok i
theorem all_okF {hs : List H3} (h : hs.all okB = true) : ∀ g ∈ Geo.frame ++ hs, okB g = true := by
  intro g hg
  rcases List.mem_append.1 hg with k | k
  · exact frame_ok g k
  · exact List.all_eq_true.1 h g k
/-- the edges of a region say all that its half planes say -/
theorem reg_imp {hs : List H3} (h : hs.all okB = true) (n : regL hs ≠ []) {X Y W : Int} (w : 0 < W) (k : ∀ e ∈ regL hs, Geo.val e X Y W ≤ 0) : ∀ g ∈ Geo.frame ++ hs, Geo.val g X Y W ≤ 0 := by
  intro g hg
  obtain ⟨P, _, d⟩ := inv_poly (regL_inv h) n
  exact Geo.inside_of P (okB_nz (all_okF h g hg)) (fun q hq => d q hq g hg) w k
theorem reg_sub {hs : List H3} (h : hs.all okB = true) : ∀ e ∈ regL hs, e ∈ Geo.frame ++ hs := by
  rcases regL_inv h with ⟨_, s, _⟩ | ⟨e, _⟩
  · exact s
  · rw [e]; intro x hx; simp at hx
theorem rok_imp {ps : List H3} (r : rokB ps = true) (n : ps ≠ []) {X Y W : Int} (w : 0 < W) (k : ∀ e ∈ ps, Geo.val e X Y W ≤ 0) : ∀ g ∈ Geo.frame, Geo.val g X Y W ≤ 0 := by
  have e := rok_reg r n
  intro g hg
  refine reg_imp (rok_allB r) (by rw [e]; exact n) w (by rw [e]; exact k) g (List.mem_append_left _ hg)
theorem side_valD {a b c x y d : Int} : sideV a b c x y d ≤ 0 ↔ Geo.val ⟨a, b, c⟩ x y d ≤ 0 := by
  unfold sideV Geo.val
  simp only
  split
  · omega
  · split <;> omega
theorem side_zeroD {a b c x y d : Int} : sideV a b c x y d = 0 ↔ Geo.val ⟨a, b, c⟩ x y d = 0 := by
  unfold sideV Geo.val
  simp only
  split
  · omega
  · split <;> omega
theorem hold_valD {h : H3} {x y d : Int} (k : okB h = true) (o : okS x y d = true) : holdH h.a h.b h.c x y d = decide (Geo.val h x y d ≤ 0) := by
  unfold holdH
  rw [show okH h.a h.b h.c = true from k, o]
  simp only [Bool.true_and, decide_eq_decide]
  exact side_valD
theorem has_iff {ps : List H3} (r : rokB ps = true) (n : ps ≠ []) {x y d : Int} (o : okS x y d = true) : hasB ps x y d = true ↔ ∀ e ∈ ps, Geo.val e x y d ≤ 0 := by
  unfold hasB
  rw [r, decide_eq_true n, Bool.true_and, Bool.true_and, List.all_eq_true]
  constructor
  · intro k e he
    have := k e he
    rwa [hold_valD (rok_all r e he) o, decide_eq_true_eq] at this
  · intro k e he
    rw [hold_valD (rok_all r e he) o, decide_eq_true_eq]
    exact k e he
theorem ok_pos {x y d : Int} (o : okS x y d = true) : 1 ≤ d := ((okS_iff _ _ _).1 o).1
/-- a region out of half planes holds a spot exactly if all half planes and the frame do -/
theorem has_reg {hs : List H3} (h : hs.all okB = true) (l : (regL hs).length ≤ 40) (n : regL hs ≠ []) {x y d : Int} (o : okS x y d = true) : hasB (regL hs) x y d = true ↔ ∀ g ∈ hs, Geo.val g x y d ≤ 0 := by
  rw [has_iff (rok_regL h l) n o]
  have od := (okS_iff _ _ _).1 o
  constructor
  · intro k g hg
    exact reg_imp h n (by omega) k g (List.mem_append_right _ hg)
  · intro k e he
    rcases List.mem_append.1 (reg_sub h e he) with m | m
    · unfold Geo.frame at m
      simp only [List.mem_cons, List.not_mem_nil, or_false] at m
      rcases m with rfl | rfl | rfl | rfl <;> unfold Geo.val <;> simp only <;> omega
    · exact k e m

/-- a number times a positive one -/
theorem scale_le {g v : Int} (hg : 1 ≤ g) : v * g ≤ 0 ↔ v ≤ 0 := by
  constructor
  · intro h
    rcases Int.lt_or_le 0 v with k | k
    · have := Int.mul_pos k (show 0 < g by omega); omega
    · exact k
  · intro h
    have := Int.mul_le_mul_of_nonneg_right h (show 0 ≤ g by omega)
    omega
theorem scale_lt {g v : Int} (hg : 1 ≤ g) : v * g < 0 ↔ v < 0 := by
  constructor
  · intro h
    rcases Int.lt_or_le v 0 with k | k
    · exact k
    · have := Int.mul_nonneg k (show 0 ≤ g by omega); omega
  · intro h
    have := Int.mul_neg_of_neg_of_pos h (show 0 < g by omega)
    omega

/-- what is known of a drawn area: the box x .. u, y .. v holds it, the spot (x + 1, y + 1) lies well within it, its edges are small -/
def AreaF (ps : List H3) (x y u v : Int) : Prop :=
  rokB ps = true ∧ ps ≠ [] ∧ ps.length ≤ 10 ∧ ((-40 ≤ x ∧ x ≤ 19) ∧ (-40 ≤ y ∧ y ≤ 19) ∧ (x + 20 ≤ u ∧ u ≤ x + 79) ∧ (y + 20 ≤ v ∧ v ≤ y + 79)) ∧
  (∀ e ∈ ps, Geo.val e (x + 1) (y + 1) 1 < 0) ∧ (∀ e ∈ ps, (-3 ≤ e.a ∧ e.a ≤ 3) ∧ (-3 ≤ e.b ∧ e.b ≤ 3) ∧ (-1000 ≤ e.c ∧ e.c ≤ 1000)) ∧
  ∀ X Y W : Int, 0 < W → (∀ e ∈ ps, Geo.val e X Y W ≤ 0) → (x * W ≤ X ∧ X ≤ u * W) ∧ (y * W ≤ Y ∧ Y ≤ v * W)
/-- a half plane that the drawing may add -/
def ExtH (x y : Int) (g : H3) : Prop := okB g = true ∧ ((-3 ≤ g.a ∧ g.a ≤ 3) ∧ (-3 ≤ g.b ∧ g.b ≤ 3) ∧ (-1000 ≤ g.c ∧ g.c ≤ 1000)) ∧ Geo.val g (x + 1) (y + 1) 1 < 0
theorem area_of {ext : List H3} {x y u v : Int} (hx : -40 ≤ x ∧ x ≤ 19) (hy : -40 ≤ y ∧ y ≤ 19) (hu : x + 20 ≤ u ∧ u ≤ x + 79) (hv : y + 20 ≤ v ∧ v ≤ y + 79) (hl : ext.length ≤ 2) (he : ∀ g ∈ ext, ExtH x y g) :
    (boxL x y u v ++ ext).all okB = true ∧ AreaF (regL (boxL x y u v ++ ext)) x y u v := by
  have bb : bxB x y u v = true := (bx_iff _ _ _ _).2 ⟨by omega, by omega, by omega, by omega, by omega, by omega⟩
  have hok : (boxL x y u v ++ ext).all okB = true := by
    rw [List.all_append, box_ok bb, Bool.true_and, List.all_eq_true]
    exact fun g hg => (he g hg).1
  have box : ∀ g ∈ boxL x y u v, ((-3 ≤ g.a ∧ g.a ≤ 3) ∧ (-3 ≤ g.b ∧ g.b ≤ 3) ∧ (-1000 ≤ g.c ∧ g.c ≤ 1000)) ∧ Geo.val g (x + 1) (y + 1) 1 < 0 := by
    intro g hg
    unfold boxL at hg
    simp only [List.mem_cons, List.not_mem_nil, or_false] at hg
    rcases hg with rfl | rfl | rfl | rfl <;> unfold Geo.val <;> simp only <;> omega
  have st : ∀ g ∈ boxL x y u v ++ ext, Geo.val g (x + 1) (y + 1) 1 < 0 := by
    intro g hg
    rcases List.mem_append.1 hg with k | k
    · exact (box g k).2
    · exact (he g k).2.2
  have n : regL (boxL x y u v ++ ext) ≠ [] := strict_some hok (by omega) (by omega) st
  have ln : (regL (boxL x y u v ++ ext)).length ≤ 10 := by
    have := regL_len (boxL x y u v ++ ext)
    rw [List.length_append] at this
    have : (boxL x y u v).length = 4 := rfl
    omega
  have fr : ∀ g ∈ Geo.frame, ((-3 ≤ g.a ∧ g.a ≤ 3) ∧ (-3 ≤ g.b ∧ g.b ≤ 3) ∧ (-1000 ≤ g.c ∧ g.c ≤ 1000)) ∧ Geo.val g (x + 1) (y + 1) 1 < 0 := by
    intro g hg
    unfold Geo.frame at hg
    simp only [List.mem_cons, List.not_mem_nil, or_false] at hg
    rcases hg with rfl | rfl | rfl | rfl <;> unfold Geo.val <;> simp only <;> omega
  refine ⟨hok, rok_regL hok (by omega), n, ln, ⟨hx, hy, hu, hv⟩, ?_, ?_, ?_⟩
  · intro e m
    rcases List.mem_append.1 (reg_sub hok e m) with k | k
    · exact (fr e k).2
    · exact st e k
  · intro e m
    rcases List.mem_append.1 (reg_sub hok e m) with k | k
    · exact (fr e k).1
    · rcases List.mem_append.1 k with k | k
      · exact (box e k).1
      · exact (he e k).2.1
  · intro X Y W w k
    have q := reg_imp hok n w k
    have m : ∀ g ∈ boxL x y u v, Geo.val g X Y W ≤ 0 := fun g hg => q g (List.mem_append_right _ (List.mem_append_left _ hg))
    have m1 := m ⟨1, 0, u⟩ (by simp [boxL])
    have m2 := m ⟨0, 1, v⟩ (by simp [boxL])
    have m3 := m ⟨-1, 0, -x⟩ (by simp [boxL])
    have m4 := m ⟨0, -1, -y⟩ (by simp [boxL])
    unfold Geo.val at m1 m2 m3 m4
    simp only at m1 m2 m3 m4
    have e3 : -x * W = -(x * W) := Int.neg_mul _ _
    have e4 : -y * W = -(y * W) := Int.neg_mul _ _
    rw [e3] at m3
    rw [e4] at m4
    omega
/-- the half plane that the drawing adds -/
theorem ext_of {a b x y t : Int} (ha : -3 ≤ a ∧ a ≤ 3) (hb : 1 ≤ b ∧ b ≤ 3) (hx : -40 ≤ x ∧ x ≤ 19) (hy : -40 ≤ y ∧ y ≤ 19) (ht : 20 ≤ t ∧ t ≤ 200) :
    ∃ A B C : Int, ansH a b (a * x + b * y + t) = spotS A B C ∧ ExtH x y ⟨A, B, C⟩ := by
  have p1 : -120 ≤ a * x ∧ a * x ≤ 120 := by
    rcases (by omega : a = -3 ∨ a = -2 ∨ a = -1 ∨ a = 0 ∨ a = 1 ∨ a = 2 ∨ a = 3) with rfl | rfl | rfl | rfl | rfl | rfl | rfl <;> omega
  have p2 : -120 ≤ b * y ∧ b * y ≤ 120 := by
    rcases (by omega : b = 1 ∨ b = 2 ∨ b = 3) with rfl | rfl | rfl <;> omega
  obtain ⟨A, B, C, g, hA, ok, hg, ea, eb, ec⟩ := has_half (a := a) (b := b) (c := a * x + b * y + t) (by omega) (by omega) (by omega) (by omega) (by omega) (by omega) (by omega)
  refine ⟨A, B, C, hA, ok, ⟨?_, ?_, ?_⟩, ?_⟩
  · exact div_in hg ea (by omega) (by omega)
  · exact div_in hg eb (by omega) (by omega)
  · exact div_in hg ec (by omega) (by omega)
  · refine (scale_lt hg).1 ?_
    have : Geo.val ⟨A, B, C⟩ (x + 1) (y + 1) 1 * g = (A * g) * (x + 1) + (B * g) * (y + 1) - (C * g) := by unfold Geo.val; simp only; grind
    rw [this, ← ea, ← eb, ← ec]
    have e1 : a * (x + 1) + b * (y + 1) - (a * x + b * y + t) = a + b - t := by grind
    rw [e1]
    omega
end Go.Proofs.Ytfndkapjclhflaa
