/- Regions mirrored and moved, and their whole spots (no calls). -/
import Derived.Test.YtfndkapjclhflaaAj
import Derived.Test.YtfndkapjclhflaaMi
import Derived.Test.YtfndkapjclhflaaAf
namespace Go.Proofs.Ytfndkapjclhflaa
open Go.RowKit
open Geo (H3)

/-- the lists of neighbours of a mapped list -/
theorem prs_map (T : H3 → H3) (l : List H3) (z : H3) : Geo.prs (l.map T) (T z) = (Geo.prs l z).map (fun p => (T p.1, T p.2)) := by
  induction l with
  | nil => rfl
  | cons x t ih =>
    cases t with
    | nil => rfl
    | cons y s => exact congrArg (fun q => (T x, T y) :: q) ih
theorem cyc_map (T : H3 → H3) {l : List H3} (n : l ≠ []) : Geo.cyc (l.map T) = (Geo.cyc l).map (fun p => (T p.1, T p.2)) := by
  unfold Geo.cyc
  cases l with
  | nil => exact absurd rfl n
  | cons x t => exact prs_map T (x :: t) x
theorem crn_map {T : H3 → H3} {E : List H3} {f g : H3} (tn : ∀ f g, Geo.tn (T f) (T g) = Geo.tn f g) (dd : ∀ f g h, Geo.D (T f) (T g) (T h) = Geo.D f g h) (h : Geo.Crn E (f, g)) : Geo.Crn (E.map T) (T f, T g) := by
  refine ⟨by simp only; rw [tn]; exact h.1, fun e he n1 n2 => ?_⟩
  obtain ⟨e', he', rfl⟩ := List.mem_map.1 he
  simp only at n1 n2 ⊢
  rw [dd]
  exact h.2 e' he' (fun q => n1 (by rw [q])) (fun q => n2 (by rw [q]))
/-- moved by (dx, dy) -/
def tmM (dx dy : Int) (h : H3) : H3 := ⟨h.a, h.b, h.c + h.a * dx + h.b * dy⟩
theorem tm_tn (dx dy : Int) (f g : H3) : Geo.tn (tmM dx dy f) (tmM dx dy g) = Geo.tn f g := rfl
theorem tm_D (dx dy : Int) (f g h : H3) : Geo.D (tmM dx dy f) (tmM dx dy g) (tmM dx dy h) = Geo.D f g h := by unfold Geo.D tmM; grind
theorem tm_val (dx dy : Int) (h : H3) (x y : Int) : Geo.val (tmM dx dy h) (x + dx) (y + dy) 1 = Geo.val h x y 1 := by unfold Geo.val tmM; grind
theorem tm_back (dx dy : Int) (h : H3) : tmM (-dx) (-dy) (tmM dx dy h) = h := by
  unfold tmM
  obtain ⟨a, b, c⟩ := h
  simp only [H3.mk.injEq, true_and]
  grind
theorem tm_gS {dx dy : Int} {h : H3} (k : okB h = true) : gS h.a h.b (h.c + h.a * dx + h.b * dy) = 1 := by
  have one : gS h.a h.b h.c = 1 := ((okH_iff _ _ _).1 k).2.2.2.2.2.2.2
  refine gS_one fun m m1 m2 m3 => ?_
  have m4 : (m : Int) ∣ h.c := by
    have a1 : (m : Int) ∣ h.a * dx := Int.dvd_trans m1 (Int.dvd_mul_right _ _)
    have a2 : (m : Int) ∣ h.b * dy := Int.dvd_trans m2 (Int.dvd_mul_right _ _)
    have e : h.c = h.c + h.a * dx + h.b * dy - h.b * dy - h.a * dx := by omega
    rw [e]
    exact Int.dvd_sub (Int.dvd_sub m3 a2) a1
  exact of_gS_one one m m1 m2 m4
theorem sh_one {dx dy : Int} {h : H3} (k : okB h = true) (b : -100000000 ≤ h.c + h.a * dx + h.b * dy ∧ h.c + h.a * dx + h.b * dy ≤ 100000000) : shB dx dy h = true ∧ shM dx dy h = tmM dx dy h ∧ okB (tmM dx dy h) = true := by
  obtain ⟨a1, a2, b1, b2, nz, _, _, _⟩ := (okH_iff _ _ _).1 k
  have g := tm_gS (dx := dx) (dy := dy) k
  have ok : okH h.a h.b (h.c + h.a * dx + h.b * dy) = true := (okH_iff _ _ _).2 ⟨a1, a2, b1, b2, nz, b.1, b.2, g⟩
  have hh : hasH h.a h.b (h.c + h.a * dx + h.b * dy) = true := by
    rw [hasH_of nz, g]
    simpa using ok
  refine ⟨hh, ?_, ok⟩
  unfold shM redH tmM
  rw [hh, g]
  simp [kp]
theorem three_in {a d : Int} (ha : -3 ≤ a ∧ a ≤ 3) (hd : -30 ≤ d ∧ d ≤ 30) : -90 ≤ a * d ∧ a * d ≤ 90 := by
  rcases (by omega : a = -3 ∨ a = -2 ∨ a = -1 ∨ a = 0 ∨ a = 1 ∨ a = 2 ∨ a = 3) with rfl | rfl | rfl | rfl | rfl | rfl | rfl <;> omega
theorem tm_poly {ps : List H3} {dx dy : Int} (P : Geo.Poly ps) (n : ps ≠ []) : Geo.Poly (ps.map (tmM dx dy)) := by
  refine ⟨by rw [List.length_map]; exact P.1, fun e he => ?_, ?_, fun p hp => ?_⟩
  · obtain ⟨e', he', rfl⟩ := List.mem_map.1 he
    exact P.2.1 e' he'
  · rw [List.pairwise_map]
    exact P.2.2.1
  · rw [cyc_map _ n] at hp
    obtain ⟨q, hq, rfl⟩ := List.mem_map.1 hp
    exact crn_map (tm_tn dx dy) (tm_D dx dy) (P.2.2.2 q hq)
/-- a drawn area moved is a region whose edges are the moved ones -/
theorem tm_reg {ps : List H3} {x y u v dx dy : Int} (F : AreaF ps x y u v) (hx : -30 ≤ dx ∧ dx ≤ 30) (hy : -30 ≤ dy ∧ dy ≤ 30) : (ps.map (tmM dx dy)).all okB = true ∧ regL (ps.map (tmM dx dy)) = ps.map (tmM dx dy) := by
  have r := F.1
  have n := F.2.1
  have sm := F.2.2.2.2.2.1
  have ok : (ps.map (tmM dx dy)).all okB = true := by
    rw [List.all_map, List.all_eq_true]
    intro e he
    obtain ⟨a, b, c⟩ := sm e he
    have p1 := three_in a hx
    have p2 := three_in b hy
    exact (sh_one (rok_all r e he) (by omega)).2.2
  refine ⟨ok, reg_eq ok (.inl ⟨tm_poly (rok_poly r n).1 n, fun z hz => List.mem_append_left _ hz, fun p hp g hg => ?_⟩)⟩
  rw [cyc_map _ n] at hp
  obtain ⟨q, hq, rfl⟩ := List.mem_map.1 hp
  rcases List.mem_append.1 hg with m | m
  · obtain ⟨e, he, rfl⟩ := List.mem_map.1 m
    simp only
    rw [tm_D]
    exact (rok_poly r n).2 q hq e (List.mem_append_right _ he)
  · obtain ⟨i, hi, rfl⟩ := cyc_ix hq
    obtain ⟨⟨c1, _⟩, ⟨xa, xb⟩, ya, yb⟩ := cor_bnd F hi
    obtain ⟨_, _, _, _, _, k, hk, _, e2⟩ := cnr_facts r n hi
    simp only
    have e3 : Geo.D (tmM dx dy (atI ps i)) (tmM dx dy (atI ps ((i + 1) % ps.length))) g = Geo.D (atI ps i) (atI ps ((i + 1) % ps.length)) (tmM (-dx) (-dy) g) := by
      have := tm_D dx dy (atI ps i) (atI ps ((i + 1) % ps.length)) (tmM (-dx) (-dy) g)
      have b := tm_back (-dx) (-dy) g
      rw [Int.neg_neg, Int.neg_neg] at b
      rw [b] at this
      exact this
    rw [e3, e2]
    refine Int.mul_nonpos_of_nonneg_of_nonpos (by omega) ?_
    generalize (crA ps i).a = X at *
    generalize (crA ps i).b = Y at *
    generalize (crA ps i).c = C at *
    have q1 : -30 * C ≤ dx * C ∧ dx * C ≤ 30 * C := ⟨Int.mul_le_mul_of_nonneg_right (by omega) (by omega), Int.mul_le_mul_of_nonneg_right (by omega) (by omega)⟩
    have q2 : -30 * C ≤ dy * C ∧ dy * C ≤ 30 * C := ⟨Int.mul_le_mul_of_nonneg_right (by omega) (by omega), Int.mul_le_mul_of_nonneg_right (by omega) (by omega)⟩
    unfold Geo.frame at m
    simp only [List.mem_cons, List.not_mem_nil, or_false] at m
    rcases m with rfl | rfl | rfl | rfl
    · have e : Geo.val (tmM (-dx) (-dy) ⟨1, 0, 1000⟩) X Y C = X - 1000 * C + dx * C := by unfold Geo.val tmM; simp only; grind
      omega
    · have e : Geo.val (tmM (-dx) (-dy) ⟨0, 1, 1000⟩) X Y C = Y - 1000 * C + dy * C := by unfold Geo.val tmM; simp only; grind
      omega
    · have e : Geo.val (tmM (-dx) (-dy) ⟨-1, 0, 1000⟩) X Y C = -X - 1000 * C - dx * C := by unfold Geo.val tmM; simp only; grind
      omega
    · have e : Geo.val (tmM (-dx) (-dy) ⟨0, -1, 1000⟩) X Y C = -Y - 1000 * C - dy * C := by unfold Geo.val tmM; simp only; grind
      omega
theorem move_facts {ps : List H3} {x y u v dx dy : Int} (F : AreaF ps x y u v) (hx : -30 ≤ dx ∧ dx ≤ 30) (hy : -30 ≤ dy ∧ dy ≤ 30) :
    shiB ps dx dy = true ∧ shiL ps dx dy = ps.map (tmM dx dy) ∧ rokB (ps.map (tmM dx dy)) = true ∧ shiB (ps.map (tmM dx dy)) (-dx) (-dy) = true ∧ shiL (ps.map (tmM dx dy)) (-dx) (-dy) = ps := by
  have r := F.1
  have n := F.2.1
  have sm := F.2.2.2.2.2.1
  have l10 := F.2.2.1
  obtain ⟨ok, eq⟩ := tm_reg F hx hy
  have ln : (regL (ps.map (tmM dx dy))).length ≤ 40 := by rw [eq, List.length_map]; omega
  have one : ∀ e ∈ ps, shB dx dy e = true ∧ shM dx dy e = tmM dx dy e ∧ okB (tmM dx dy e) = true := by
    intro e he
    obtain ⟨a, b, c⟩ := sm e he
    have p1 := three_in a hx
    have p2 := three_in b hy
    exact sh_one (rok_all r e he) (by omega)
  have ha : ps.all (shB dx dy) = true := List.all_eq_true.2 fun e he => (one e he).1
  have em : ps.map (shM dx dy) = ps.map (tmM dx dy) := List.map_congr_left fun e he => (one e he).2.1
  have oF : okF ([] ++ ps.map (shM dx dy)) = true := by
    rw [List.nil_append, em]
    unfold okF
    rw [ok, decide_eq_true ln, decide_eq_true (by rw [List.length_map]; omega)]
    rfl
  have mb : mvB (shB dx dy) (shM dx dy) [] ps = true := by unfold mvB; rw [ha, oF]; simp
  have rk : rokB (ps.map (tmM dx dy)) = true := by have := rok_regL ok ln; rwa [eq] at this
  obtain ⟨y1, y2⟩ := shi_yes (ps := ps) (inB_of (x := dx) (a := -2000) (b := 2000) (by omega) (by omega)) (inB_of (x := dy) (a := -2000) (b := 2000) (by omega) (by omega)) r
  obtain ⟨_, eL, _, _⟩ := mv_facts n mb
  rw [List.nil_append, em, eq] at eL
  -- back
  have n2 : ps.map (tmM dx dy) ≠ [] := by simpa using n
  have two : ∀ e ∈ ps, shB (-dx) (-dy) (tmM dx dy e) = true ∧ shM (-dx) (-dy) (tmM dx dy e) = e := by
    intro e he
    have q := sh_one (dx := -dx) (dy := -dy) (one e he).2.2 (by
      have := tm_back dx dy e
      have c : (tmM (-dx) (-dy) (tmM dx dy e)).c = e.c := by rw [this]
      have d : (tmM (-dx) (-dy) (tmM dx dy e)).c = (tmM dx dy e).c + (tmM dx dy e).a * -dx + (tmM dx dy e).b * -dy := rfl
      have := (sm e he).2.2
      omega)
    exact ⟨q.1, by rw [q.2.1, tm_back]⟩
  have ha2 : (ps.map (tmM dx dy)).all (shB (-dx) (-dy)) = true := by
    rw [List.all_map, List.all_eq_true]
    exact fun e he => (two e he).1
  have em2 : (ps.map (tmM dx dy)).map (shM (-dx) (-dy)) = ps := by
    rw [List.map_map]
    have : ps.map (shM (-dx) (-dy) ∘ tmM dx dy) = ps.map id := List.map_congr_left fun e he => (two e he).2
    rw [this, List.map_id]
  have oF2 : okF ([] ++ (ps.map (tmM dx dy)).map (shM (-dx) (-dy))) = true := by
    rw [List.nil_append, em2]
    unfold okF
    rw [rok_allB r, rok_reg r n, decide_eq_true (by omega)]
    rfl
  have mb2 : mvB (shB (-dx) (-dy)) (shM (-dx) (-dy)) [] (ps.map (tmM dx dy)) = true := by unfold mvB; rw [ha2, oF2]; simp
  obtain ⟨z1, z2⟩ := shi_yes (ps := ps.map (tmM dx dy)) (inB_of (x := -dx) (a := -2000) (b := 2000) (by omega) (by omega)) (inB_of (x := -dy) (a := -2000) (b := 2000) (by omega) (by omega)) rk
  obtain ⟨_, eL2, _, _⟩ := mv_facts n2 mb2
  rw [List.nil_append, em2, rok_reg r n] at eL2
  exact ⟨by rw [y2, mb], by rw [y1, eL], rk, by rw [z2, mb2], by rw [z1, eL2]⟩
end Go.Proofs.Ytfndkapjclhflaa
