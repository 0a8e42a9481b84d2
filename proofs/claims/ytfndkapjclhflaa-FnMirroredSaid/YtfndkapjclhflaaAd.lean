/- A region pulled back by a matrix, and the walk of the law FnPulled. -/
import Derived.Test.YtfndkapjclhflaaAc
import Derived.Test.YtfndkapjclhflaaPc
import Derived.Test.YtfndkapjclhflaaMf
namespace Go.Proofs.Ytfndkapjclhflaa
open Go.RowKit
open Geo (H3)

theorem okS64' {x y d : Int} (h : okS x y d = true) : In64 ⟨x, y, d⟩ := by
  by_cases c : d < 1 ∨ 5000000000 < d ∨ x < -(1000 * d) ∨ 1000 * d < x ∨ y < -(1000 * d) ∨ 1000 * d < y
  · rw [okS_no c] at h; cases h
  · refine ⟨⟨?_, ?_⟩, ⟨?_, ?_⟩, ⟨?_, ?_⟩⟩ <;> simp only <;> omega
theorem red_parts {a b c : Int} (h : hasH a b c = true) : ∃ g : Int, 1 ≤ g ∧ ∀ X Y W : Int, a * X + b * Y - c * W = Geo.val (redH a b c) X Y W * g := by
  have h0 : a ≠ 0 ∨ b ≠ 0 := by
    unfold hasH at h
    simp only [Bool.and_eq_true, decide_eq_true_eq] at h
    exact h.1
  have hg := gS_posH (c := c) h0
  have ea : a = a.tdiv (gS a b c) * (gS a b c : Int) := (Int.tdiv_mul_cancel (gS_dvd_x a b c)).symm
  have eb : b = b.tdiv (gS a b c) * (gS a b c : Int) := (Int.tdiv_mul_cancel (gS_dvd_y a b c)).symm
  have ec : c = c.tdiv (gS a b c) * (gS a b c : Int) := (Int.tdiv_mul_cancel (gS_dvd_d a b c)).symm
  refine ⟨(gS a b c : Int), by omega, fun X Y W => ?_⟩
  unfold redH Geo.val
  rw [h, kp_t, kp_t, kp_t]
  simp only
  generalize a.tdiv (gS a b c) = A at *
  generalize b.tdiv (gS a b c) = B at *
  generalize c.tdiv (gS a b c) = C at *
  generalize (gS a b c : Int) = g at *
  subst ea eb ec
  grind
theorem ok_lenF {hs : List H3} (h : okF hs = true) : hs.all okB = true ∧ (regL hs).length ≤ 40 ∧ regE hs = regL hs := by
  have e : regE hs = regL hs := by unfold regE; rw [if_pos h]
  unfold okF at h
  simp only [Bool.and_eq_true, decide_eq_true_eq] at h
  exact ⟨h.1.2, h.2, e⟩
/-- a moved region that is not refused: its half planes are all there, and it is valid -/
theorem mv_facts {B : H3 → Bool} {M : H3 → H3} {fu ps : List H3} (n : ps ≠ []) (h : mvB B M fu ps = true) : ps.all B = true ∧ mvL B M fu ps = regL (fu ++ ps.map M) ∧ (fu ++ ps.map M).all okB = true ∧ (regL (fu ++ ps.map M)).length ≤ 40 := by
  have h' := h
  unfold mvB at h
  simp only [Bool.or_eq_true, Bool.and_eq_true, decide_eq_true_eq] at h
  obtain ⟨a, o⟩ := h.resolve_left n
  obtain ⟨o1, o2, _⟩ := ok_lenF o
  refine ⟨a, ?_, o1, o2⟩
  unfold mvL
  rw [if_pos ⟨h', n⟩]
theorem has_void {x y d : Int} : hasB [] x y d = false := has_nil rfl rfl x y d
theorem pull_facts {ps : List H3} {zs : List Int} {q : Int} (r : rokB ps = true) (n : ps ≠ []) (hb : pbkB ps zs q = true) :
    rokB (pbkL ps zs q) = true ∧ ∀ X Y X' Y' D' G : Int, okS X Y 1 = true → okS X' Y' D' = true → 1 ≤ G → zg zs 0 * X + zg zs 1 * Y = X' * G → zg zs 2 * X + zg zs 3 * Y = Y' * G → q = D' * G →
      (hasB (pbkL ps zs q) X Y 1 = true → hasB ps X' Y' D' = true) ∧ (pbkL ps zs q ≠ [] → hasB ps X' Y' D' = true → hasB (pbkL ps zs q) X Y 1 = true) := by
  have hb' := hb
  unfold pbkB at hb
  rw [Bool.and_eq_true] at hb
  obtain ⟨hc, hm⟩ := hb
  rw [(pbk_yes hc).1]
  obtain ⟨ha, eL, ok, ln⟩ := mv_facts n hm
  rw [eL]
  rw [List.nil_append] at ok ln ⊢
  refine ⟨rok_regL ok ln, fun X Y X' Y' D' G o o' hG e1 e2 e3 => ?_⟩
  have key : (∀ g ∈ ps.map (pbM zs q), Geo.val g X Y 1 ≤ 0) ↔ ∀ e ∈ ps, Geo.val e X' Y' D' ≤ 0 := by
    rw [List.forall_mem_map]
    refine forall_congr' fun e => forall_congr' fun he => ?_
    obtain ⟨g, hg, hv⟩ := red_parts (List.all_eq_true.1 ha e he)
    have h1 := hv X Y 1
    rw [← scale_le hg, show Geo.val (pbM zs q e) X Y 1 * g = _ from h1.symm, ← scale_le hG (v := Geo.val e X' Y' D')]
    have : (e.a * zg zs 0 + e.b * zg zs 2) * X + (e.a * zg zs 1 + e.b * zg zs 3) * Y - e.c * q * 1 = Geo.val e X' Y' D' * G := by
      have t1 : (e.a * zg zs 0 + e.b * zg zs 2) * X + (e.a * zg zs 1 + e.b * zg zs 3) * Y - e.c * q * 1 = e.a * (zg zs 0 * X + zg zs 1 * Y) + e.b * (zg zs 2 * X + zg zs 3 * Y) - e.c * q := by grind
      rw [t1, e1, e2, e3]
      unfold Geo.val
      grind
    rw [this]
  by_cases nL : regL (ps.map (pbM zs q)) = []
  · rw [nL]
    exact ⟨fun h => (by rw [has_void] at h; cases h), fun h => absurd rfl h⟩
  · rw [has_reg ok ln nL o, has_iff r n o', key]
    exact ⟨fun h => h, fun _ h => h⟩
/-- the mapped spot -/
theorem map_spot {zs : List Int} {q X Y : Int} (hF : MapF zs q) (hX : -40 ≤ X ∧ X ≤ 39) (hY : -40 ≤ Y ∧ Y ≤ 39) : ∃ X' Y' D' G : Int, msV X Y 1 zs q = spotS X' Y' D' ∧ okS X' Y' D' = true ∧ 1 ≤ G ∧ zg zs 0 * X + zg zs 1 * Y = X' * G ∧ zg zs 2 * X + zg zs 3 * Y = Y' * G ∧ q = D' * G := by
  obtain ⟨hm, ⟨z0, z1, z2, z3, rfl, h0, h1, h2, h3⟩, q1, q5⟩ := hF
  have p : ∀ z t : Int, (-5 ≤ z ∧ z ≤ 5) → (-40 ≤ t ∧ t ≤ 39) → -200 ≤ z * t ∧ z * t ≤ 200 := by
    intro z t hz ht
    rcases (by omega : z = -5 ∨ z = -4 ∨ z = -3 ∨ z = -2 ∨ z = -1 ∨ z = 0 ∨ z = 1 ∨ z = 2 ∨ z = 3 ∨ z = 4 ∨ z = 5) with rfl | rfl | rfl | rfl | rfl | rfl | rfl | rfl | rfl | rfl | rfl <;> omega
  have a1 := p z0 X h0 hX
  have a2 := p z1 Y h1 hY
  have a3 := p z2 X h2 hX
  have a4 := p z3 Y h3 hY
  obtain ⟨X', Y', D', G, hA, ok, hG, e1, e2, e3⟩ := has_spot (x := z0 * X + z1 * Y) (y := z2 * X + z3 * Y) (d := q * 1) (by omega) (by omega) (by omega) (by omega) (by omega) (by omega)
  refine ⟨X', Y', D', G, ?_, ok, hG, e1, e2, by omega⟩
  unfold msV
  rw [if_pos ⟨whole_ok (by omega) (by omega), hm⟩]
  exact hA
end Go.Proofs.Ytfndkapjclhflaa
