/- Drawn areas eroded by a small box (no calls). -/
import Derived.Test.YtfndkapjclhflaaAj
import Derived.Test.YtfndkapjclhflaaEs
import Derived.Test.YtfndkapjclhflaaAg
namespace Go.Proofs.Ytfndkapjclhflaa
open Go.RowKit
open Geo (H3)

/-- a small box around (0, 0) -/
def BoxF (qs : List H3) : Prop := ∃ x0 y0 x1 y1 : Int, (-3 ≤ x0 ∧ x0 ≤ 0) ∧ (-3 ≤ y0 ∧ y0 ≤ 0) ∧ (1 ≤ x1 ∧ x1 ≤ 4) ∧ (1 ≤ y1 ∧ y1 ≤ 4) ∧ qs = boxL x0 y0 x1 y1
theorem has_ok {a b c : Int} (h0 : a ≠ 0 ∨ b ≠ 0) (ha : -50000 ≤ a) (ha2 : a ≤ 50000) (hb : -50000 ≤ b) (hb2 : b ≤ 50000) (hc : -100000000 ≤ c) (hc2 : c ≤ 100000000) : hasH a b c = true := by
  obtain ⟨A, B, C, g, e, _⟩ := has_half h0 ha ha2 hb hb2 hc hc2
  cases k : hasH a b c with
  | true => rfl
  | false => rw [ansH_no k] at e; simp [zeroS, spotS] at e
theorem box_facts {qs : List H3} (F : BoxF qs) : rokB qs = true ∧ qs ≠ [] ∧ qs.length = 4 ∧ (∀ e ∈ qs, Geo.val e 0 0 1 ≤ 0) ∧ ∀ i, i < 4 → (crA qs i).c = 1 ∧ (-4 ≤ (crA qs i).a ∧ (crA qs i).a ≤ 4) ∧ -4 ≤ (crA qs i).b ∧ (crA qs i).b ≤ 4 := by
  obtain ⟨x0, y0, x1, y1, hx0, hy0, hx1, hy1, rfl⟩ := F
  have bb : bxB x0 y0 x1 y1 = true := (bx_iff _ _ _ _).2 ⟨by omega, by omega, by omega, by omega, by omega, by omega⟩
  have e : regL (boxL x0 y0 x1 y1) = boxL x0 y0 x1 y1 := by rw [← mod_reg (box_ok bb)]; exact box_mod bb
  have r : rokB (boxL x0 y0 x1 y1) = true := by
    have := rok_regL (box_ok bb) (by rw [e]; show 4 ≤ 40; omega)
    rwa [e] at this
  have n : boxL x0 y0 x1 y1 ≠ [] := by simp [boxL]
  have l : (boxL x0 y0 x1 y1).length = 4 := rfl
  refine ⟨r, n, l, ?_, ?_⟩
  · intro e he
    unfold boxL at he
    simp only [List.mem_cons, List.not_mem_nil, or_false] at he
    rcases he with rfl | rfl | rfl | rfl <;> unfold Geo.val <;> simp only <;> omega
  · intro i hi
    obtain ⟨o, c1, ins, _, _, k, hk, e1, _⟩ := cnr_facts r n (show i < (boxL x0 y0 x1 y1).length by rw [l]; exact hi)
    have t : Geo.tn (atI (boxL x0 y0 x1 y1) i) (atI (boxL x0 y0 x1 y1) ((i + 1) % (boxL x0 y0 x1 y1).length)) = 1 := by
      rcases (by omega : i = 0 ∨ i = 1 ∨ i = 2 ∨ i = 3) with rfl | rfl | rfl | rfl <;> (unfold Geo.tn atI boxL; simp)
    rw [t] at e1
    have c : (crA (boxL x0 y0 x1 y1) i).c = 1 := by
      have := Int.mul_le_mul_of_nonneg_right hk (show 0 ≤ (crA (boxL x0 y0 x1 y1) i).c by omega)
      omega
    have m1 := ins ⟨1, 0, x1⟩ (List.mem_append_right _ (by simp [boxL]))
    have m2 := ins ⟨0, 1, y1⟩ (List.mem_append_right _ (by simp [boxL]))
    have m3 := ins ⟨-1, 0, -x0⟩ (List.mem_append_right _ (by simp [boxL]))
    have m4 := ins ⟨0, -1, -y0⟩ (List.mem_append_right _ (by simp [boxL]))
    unfold Geo.val at m1 m2 m3 m4
    simp only [c] at m1 m2 m3 m4
    exact ⟨c, by omega, by omega⟩
/-- what is taken off an edge: the greatest value over the box -/
theorem ero_edge {qs : List H3} (F : BoxF qs) {e : H3} (ok : okB e = true) (sm : (-3 ≤ e.a ∧ e.a ≤ 3) ∧ (-3 ≤ e.b ∧ e.b ≤ 3) ∧ (-1000 ≤ e.c ∧ e.c ≤ 1000)) :
    ∃ N : Int, erB qs e = true ∧ 0 ≤ N ∧ (∀ X Y W : Int, Geo.val (erM qs e) X Y W ≤ 0 ↔ e.a * X + e.b * Y - (e.c - N) * W ≤ 0) ∧ (∀ i, i < 4 → e.a * (crA qs i).a + e.b * (crA qs i).b ≤ N) ∧ ∃ j, j < 4 ∧ N = e.a * (crA qs j).a + e.b * (crA qs j).b := by
  obtain ⟨r, n, l, z, cr⟩ := box_facts F
  have iA : In5 e.a := ⟨by omega, by omega⟩
  have iB : In5 e.b := ⟨by omega, by omega⟩
  have ok4 : ∀ i, i < qs.length → okS (crA qs i).a (crA qs i).b (crA qs i).c = true := fun i hi => (cnr_facts r n hi).1
  have one : ∀ i, i < 4 → vaN e.a e.b (crA qs i) = e.a * (crA qs i).a + e.b * (crA qs i).b ∧ vaD e.a e.b (crA qs i) = 1 := by
    intro i hi
    have sd := sgn_div (n := e.a * (crA qs i).a + e.b * (crA qs i).b) (d := (crA qs i).c) (by rw [(cr i hi).1]; omega)
    unfold vaN vaD
    rw [(cr i hi).1] at sd ⊢
    rw [show Int.gcd (e.a * (crA qs i).a + e.b * (crA qs i).b) 1 = 1 by simp] at sd
    exact ⟨by have := sd.2.2.2.1; simpa using this, by have := sd.2.2.2.2; simpa using this⟩
  rcases far_ix e.a e.b qs qs.length with ⟨z0, _⟩ | ⟨j, hj, ef⟩
  · omega
  have mx := far_max iA iB ok4 qs.length (Nat.le_refl _)
  rw [l] at hj
  have hN : erN qs e = e.a * (crA qs j).a + e.b * (crA qs j).b := by unfold erN; rw [ef]; exact (one j hj).1
  have hD : erD qs e = 1 := by unfold erD; rw [ef]; exact (one j hj).2
  have le : ∀ i, i < 4 → e.a * (crA qs i).a + e.b * (crA qs i).b ≤ erN qs e := by
    intro i hi
    have := mx i (by omega)
    rw [ef] at this
    simp only at this
    rw [(one i hi).1, (one i hi).2, (one j hj).1, (one j hj).2] at this
    rw [hN]
    omega
  have h0 := (ok_in ok).2.2.2.1
  have pos : 0 ≤ erN qs e := by
    have nh : Geo.nz ⟨e.a, e.b, erN qs e⟩ := h0
    have := Geo.inside_of (rok_poly r n).1 nh (fun p hp => ?_) (show (0 : Int) < 1 by omega) z
    · unfold Geo.val at this
      simp only at this
      omega
    · obtain ⟨i, hi, rfl⟩ := cyc_ix hp
      obtain ⟨_, ci, _, _, _, kk, hkk, _, e2⟩ := cnr_facts r n hi
      rw [e2]
      refine Int.mul_nonpos_of_nonneg_of_nonpos (by omega) ?_
      have := le i (by omega)
      have c1 := (cr i (by omega)).1
      unfold Geo.val
      simp only
      rw [c1]
      omega
  have up : erN qs e ≤ 24 := by
    rw [hN]
    have p : ∀ a t : Int, (-3 ≤ a ∧ a ≤ 3) → (-4 ≤ t ∧ t ≤ 4) → a * t ≤ 12 := by
      intro a t ha ht
      rcases (by omega : a = -3 ∨ a = -2 ∨ a = -1 ∨ a = 0 ∨ a = 1 ∨ a = 2 ∨ a = 3) with rfl | rfl | rfl | rfl | rfl | rfl | rfl <;> omega
    have p1 := p _ _ sm.1 (cr j hj).2.1
    have p2 := p _ _ sm.2.1 (cr j hj).2.2
    omega
  have hb : erB qs e = true := by
    unfold erB
    rw [hD, Int.mul_one, Int.mul_one, Int.mul_one]
    exact has_ok h0 (by omega) (by omega) (by omega) (by omega) (by omega) (by omega)
  refine ⟨erN qs e, hb, pos, fun X Y W => ?_, le, j, hj, hN⟩
  obtain ⟨g, hg, hv⟩ := red_parts hb
  have h1 := hv X Y W
  rw [hD, Int.mul_one, Int.mul_one, Int.mul_one] at h1
  rw [h1, show redH e.a e.b (e.c - erN qs e) = erM qs e by unfold erM; rw [hD, Int.mul_one, Int.mul_one, Int.mul_one]]
  exact (scale_le hg).symm
/-- whether the region holds the spot moved by the first k corners -/
noncomputable def alE (ps qs : List H3) (X Y : Int) : Nat → Bool
  | 0 => true
  | k + 1 => alE ps qs X Y k && hasB ps (X + (crA qs k).a) (Y + (crA qs k).b) 1
theorem alE_iff {ps qs : List H3} {X Y : Int} (k : Nat) : alE ps qs X Y k = true ↔ ∀ i, i < k → hasB ps (X + (crA qs i).a) (Y + (crA qs i).b) 1 = true := by
  induction k with
  | zero => exact ⟨fun _ i hi => by omega, fun _ => rfl⟩
  | succ k ih =>
    unfold alE
    rw [Bool.and_eq_true, ih]
    constructor
    · rintro ⟨a, b⟩ i hi
      rcases Nat.lt_or_ge i k with q | q
      · exact a i q
      · have : i = k := by omega
        rw [this]; exact b
    · intro h
      exact ⟨fun i hi => h i (by omega), h k (by omega)⟩
theorem ero_facts {ps qs : List H3} {x y u v : Int} (F : AreaF ps x y u v) (G : BoxF qs) :
    eroB ps qs = true ∧ rokB (eroL ps qs) = true ∧ wiB (eroL ps qs) ps = true ∧ ∀ X Y : Int, (-40 ≤ X ∧ X ≤ 39) → (-40 ≤ Y ∧ Y ≤ 39) → (hasB (eroL ps qs) X Y 1 = true → alE ps qs X Y 4 = true) ∧ (eroL ps qs ≠ [] → alE ps qs X Y 4 = true → hasB (eroL ps qs) X Y 1 = true) := by
  have r := F.1
  have n := F.2.1
  have sm := F.2.2.2.2.2.1
  obtain ⟨r', n', l', _, cr⟩ := box_facts G
  have ed := fun e (he : e ∈ ps) => ero_edge G (rok_all r e he) (sm e he)
  have ha : ps.all (erB qs) = true := List.all_eq_true.2 fun e he => (ed e he).choose_spec.1
  have ok : (ps.map (erM qs)).all okB = true := map_ok (fun h k => er_ok qs h k) ha
  have ln : (regL (ps.map (erM qs))).length ≤ 40 := by
    have := regL_len (ps.map (erM qs))
    rw [List.length_map] at this
    have := F.2.2.1
    omega
  have oF : okF ([] ++ ps.map (erM qs)) = true := by
    rw [List.nil_append]
    unfold okF
    rw [ok, decide_eq_true ln, decide_eq_true (by rw [List.length_map]; have := F.2.2.1; omega)]
    rfl
  have mb : mvB (erB qs) (erM qs) [] ps = true := by unfold mvB; rw [ha, oF]; simp
  obtain ⟨y1, y2⟩ := ero_yes r r' n'
  obtain ⟨_, eM, _, _⟩ := mv_facts n mb
  rw [List.nil_append] at eM
  rw [y1, y2, mb, eM]
  refine ⟨rfl, rok_regL ok ln, within_rok (rok_regL ok ln) r n (fun nL X Y W w k g hg => ?_), fun X Y hX hY => ?_⟩
  · obtain ⟨N, _, N0, vl, _⟩ := ed g hg
    have := (vl X Y W).1 (reg_imp ok nL w k (erM qs g) (List.mem_append_right _ (List.mem_map.2 ⟨g, hg, rfl⟩)))
    have p := Int.mul_nonneg N0 (show 0 ≤ W by omega)
    have e : (g.c - N) * W = g.c * W - N * W := Int.sub_mul _ _ _
    unfold Geo.val
    omega
  · have o := whole_ok (x := X) (y := Y) (by omega) (by omega)
    have key : (∀ g ∈ ps.map (erM qs), Geo.val g X Y 1 ≤ 0) ↔ alE ps qs X Y 4 = true := by
      rw [List.forall_mem_map, alE_iff]
      constructor
      · intro h i hi
        obtain ⟨_, b1, b2⟩ := cr i hi
        rw [has_iff r n (whole_ok (by omega) (by omega))]
        intro e he
        obtain ⟨N, _, _, vl, le, _⟩ := ed e he
        have h1 := (vl X Y 1).1 (h e he)
        have h2 := le i hi
        unfold Geo.val
        have : e.a * (X + (crA qs i).a) + e.b * (Y + (crA qs i).b) = e.a * X + e.b * Y + (e.a * (crA qs i).a + e.b * (crA qs i).b) := by grind
        omega
      · intro h e he
        obtain ⟨N, _, _, vl, _, j, hj, hN⟩ := ed e he
        obtain ⟨_, b1, b2⟩ := cr j hj
        have h1 := (has_iff r n (whole_ok (x := X + (crA qs j).a) (y := Y + (crA qs j).b) (by omega) (by omega))).1 (h j hj) e he
        rw [vl]
        unfold Geo.val at h1
        have : e.a * (X + (crA qs j).a) + e.b * (Y + (crA qs j).b) = e.a * X + e.b * Y + (e.a * (crA qs j).a + e.b * (crA qs j).b) := by grind
        omega
    by_cases nL : regL (ps.map (erM qs)) = []
    · rw [nL]
      exact ⟨fun h => (by rw [has_void] at h; cases h), fun h => absurd rfl h⟩
    · rw [has_reg ok ln nL o, key]
      exact ⟨fun h => h, fun _ h => h⟩
end Go.Proofs.Ytfndkapjclhflaa
