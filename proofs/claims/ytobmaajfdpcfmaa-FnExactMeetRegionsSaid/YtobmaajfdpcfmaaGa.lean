/- Half planes as triples of numbers: turns, crossings, the order of directions; polygons given by their edges, and what is left of one that is cut by a half plane. Plain mathematics, without the translation. -/
namespace Go.Proofs.Ytobmaajfdpcfmaa.Geo
structure H3 where
  a : Int
  b : Int
  c : Int
instance : DecidableEq H3 := fun x y => decidable_of_iff (x.a = y.a ∧ x.b = y.b ∧ x.c = y.c) (by cases x; cases y; simp)
def tn (f g : H3) : Int := f.a * g.b - f.b * g.a
def D (f g k : H3) : Int := k.a * (f.c * g.b - f.b * g.c) + k.b * (f.a * g.c - f.c * g.a) - k.c * (f.a * g.b - f.b * g.a)
def val (h : H3) (X Y W : Int) : Int := h.a * X + h.b * Y - h.c * W
def nz (h : H3) : Prop := h.a ≠ 0 ∨ h.b ≠ 0
def up (h : H3) : Bool := decide (0 < h.b) || (decide (h.b = 0) && decide (0 < h.a))
def bef (f g : H3) : Bool := if up f = up g then decide (0 < f.a * g.b - f.b * g.a) else up f
def sd (f g : H3) : Bool := decide (f.a * g.b - f.b * g.a = 0) && (up f == up g)
theorem tn_swap (f g : H3) : tn g f = -tn f g := by unfold tn; grind
theorem D_rot (f g k : H3) : D g k f = D f g k := by unfold D; grind
theorem D_rot2 (f g k : H3) : D k f g = D f g k := by unfold D; grind
theorem D_swap (f g k : H3) : D g f k = -D f g k := by unfold D; grind
theorem D_same1 (f g : H3) : D f g f = 0 := by unfold D; grind
theorem D_same2 (f g : H3) : D f g g = 0 := by unfold D; grind
theorem id2 (x g z h : H3) : D x g z * tn h g = tn x g * D g z h - tn g z * D x g h := by unfold D tn; grind
theorem id3 (x g z h e : H3) : D x g z * D h g e = D x g e * D g z h - D x g h * D g z e := by unfold D; grind
theorem id4 (f g h : H3) (X Y W : Int) : tn f g * val h X Y W = tn h g * val f X Y W + tn f h * val g X Y W + W * D f g h := by unfold D tn val; grind
theorem val_cross (f g h : H3) : val h (f.c * g.b - f.b * g.c) (f.a * g.c - f.c * g.a) (tn f g) = D f g h := by unfold D tn val; grind
theorem id5 (f g h p q : H3) : tn f g * D p q h = tn h g * D p q f + tn f h * D p q g + tn p q * D f g h := by unfold D tn; grind
theorem neg_of {a b : Int} (h : a < 0) (k : 0 < a * b) : b < 0 := by
  rcases Int.lt_or_le b 0 with hb | hb
  · exact hb
  · have := Int.mul_nonpos_of_nonpos_of_nonneg (Int.le_of_lt h) hb; omega
theorem nonpos_of {a b : Int} (h : a < 0) (k : 0 ≤ a * b) : b ≤ 0 := by
  rcases Int.lt_or_le 0 b with hb | hb
  · have := Int.mul_neg_of_neg_of_pos h hb; omega
  · exact hb
theorem pos_of_neg {a b : Int} (h : a < 0) (k : a * b < 0) : 0 < b := by
  rcases Int.lt_or_le 0 b with hb | hb
  · exact hb
  · have := Int.mul_nonneg_of_nonpos_of_nonpos (Int.le_of_lt h) hb; omega
theorem pos_of {a b : Int} (h : 0 < a) (k : 0 < a * b) : 0 < b := by
  rcases Int.lt_or_le 0 b with hb | hb
  · exact hb
  · have := Int.mul_nonpos_of_nonneg_of_nonpos (Int.le_of_lt h) hb; omega
theorem nonneg_of {a b : Int} (h : 0 < a) (k : 0 ≤ a * b) : 0 ≤ b := by
  rcases Int.lt_or_le b 0 with hb | hb
  · have := Int.mul_neg_of_pos_of_neg h hb; omega
  · exact hb
theorem neg_of_pos {a b : Int} (h : 0 < a) (k : a * b < 0) : b < 0 := by
  rcases Int.lt_or_le b 0 with hb | hb
  · exact hb
  · have := Int.mul_nonneg (Int.le_of_lt h) hb; omega
theorem nonpos_of_pos {a b : Int} (h : 0 < a) (k : a * b ≤ 0) : b ≤ 0 := by
  rcases Int.lt_or_le 0 b with hb | hb
  · have := Int.mul_pos h hb; omega
  · exact hb
/-- directions in the first half turn are ordered by the turn -/
theorem core {p q r s t u : Int} (h1 : 0 < q ∨ q = 0 ∧ 0 < p) (h2 : 0 < s ∨ s = 0 ∧ 0 < r) (h3 : 0 < u ∨ u = 0 ∧ 0 < t) (k1 : 0 ≤ p * s - q * r) (k2 : 0 ≤ r * u - s * t) :
    0 ≤ p * u - q * t ∧ (0 < p * s - q * r → 0 < p * u - q * t) ∧ (0 < r * u - s * t → 0 < p * u - q * t) := by
  have e : s * (p * u - q * t) = u * (p * s - q * r) + q * (r * u - s * t) := by grind
  rcases h2 with hs | ⟨hs, hr⟩
  · rcases h3 with hu | ⟨hu, ht⟩
    · rcases h1 with hq | ⟨hq, hp⟩
      · have a1 := Int.mul_nonneg (Int.le_of_lt hu) k1
        have a2 := Int.mul_nonneg (Int.le_of_lt hq) k2
        refine ⟨nonneg_of hs (by omega), fun h => ?_, fun h => ?_⟩
        · have := Int.mul_pos hu h; exact pos_of hs (by omega)
        · have := Int.mul_pos hq h; exact pos_of hs (by omega)
      · subst hq
        have a1 := Int.mul_pos hp hu
        have : p * u - 0 * t = p * u := by grind
        omega
    · subst hu
      have a1 := Int.mul_pos hs ht
      have : r * 0 - s * t = -(s * t) := by grind
      omega
  · subst hs
    rcases h1 with hq | ⟨hq, hp⟩
    · have a1 := Int.mul_pos hq hr
      have : p * 0 - q * r = -(q * r) := by grind
      omega
    · subst hq
      have e1 : p * 0 - 0 * r = 0 := by grind
      have e2 : r * u - 0 * t = r * u := by grind
      have e3 : p * u - 0 * t = p * u := by grind
      rw [e2] at k2 ⊢
      rw [e1, e3]
      have hu := nonneg_of hr k2
      refine ⟨Int.mul_nonneg (Int.le_of_lt hp) hu, fun h => by omega, fun h => Int.mul_pos hp (pos_of hr h)⟩
/-- a direction turned into the first half turn, with its sign -/
def flip (h : H3) : Int × Int := if up h then (h.a, h.b) else (-h.a, -h.b)
theorem flip_up {h : H3} (k : nz h) : 0 < (flip h).2 ∨ (flip h).2 = 0 ∧ 0 < (flip h).1 := by
  unfold flip up; unfold nz at k
  split <;> simp_all <;> omega
def ft (f g : H3) : Int := (flip f).1 * (flip g).2 - (flip f).2 * (flip g).1
theorem ft_swap (f g : H3) : ft g f = -ft f g := by unfold ft; grind
theorem ft_core {f g h : H3} (nf : nz f) (ng : nz g) (nh : nz h) (k1 : 0 ≤ ft f g) (k2 : 0 ≤ ft g h) : 0 ≤ ft f h ∧ (0 < ft f g → 0 < ft f h) ∧ (0 < ft g h → 0 < ft f h) :=
  core (flip_up nf) (flip_up ng) (flip_up nh) k1 k2
theorem tn_ft (f g : H3) : tn f g = if up f = up g then ft f g else -ft f g := by
  unfold tn ft flip
  cases up f <;> cases up g <;> simp <;> grind
theorem bef_ft (f g : H3) : bef f g = if up f = up g then decide (0 < ft f g) else up f := by
  have h := tn_ft f g
  unfold bef
  split
  · rename_i e; rw [if_pos e] at h; unfold tn at h; rw [h]
  · rfl
theorem sd_ft (f g : H3) : sd f g = (decide (ft f g = 0) && (up f == up g)) := by
  have h := tn_ft f g
  unfold sd
  by_cases e : up f = up g
  · rw [if_pos e] at h; unfold tn at h; rw [h]
  · have : (up f == up g) = false := by simpa using e
    rw [this]; simp
/-- all that the order of three directions says of their turns -/
theorem three_ft {f g h : H3} (nf : nz f) (ng : nz g) (nh : nz h) :
    (0 ≤ ft f g → 0 ≤ ft g h → 0 ≤ ft f h ∧ (0 < ft f g → 0 < ft f h) ∧ (0 < ft g h → 0 < ft f h)) ∧
    (0 ≤ ft f h → 0 ≤ -ft g h → 0 ≤ ft f g ∧ (0 < ft f h → 0 < ft f g) ∧ (0 < -ft g h → 0 < ft f g)) ∧
    (0 ≤ -ft f g → 0 ≤ ft f h → 0 ≤ ft g h ∧ (0 < -ft f g → 0 < ft g h) ∧ (0 < ft f h → 0 < ft g h)) ∧
    (0 ≤ ft g h → 0 ≤ -ft f h → 0 ≤ -ft f g ∧ (0 < ft g h → 0 < -ft f g) ∧ (0 < -ft f h → 0 < -ft f g)) ∧
    (0 ≤ -ft f h → 0 ≤ ft f g → 0 ≤ -ft g h ∧ (0 < -ft f h → 0 < -ft g h) ∧ (0 < ft f g → 0 < -ft g h)) ∧
    (0 ≤ -ft g h → 0 ≤ -ft f g → 0 ≤ -ft f h ∧ (0 < -ft g h → 0 < -ft f h) ∧ (0 < -ft f g → 0 < -ft f h)) := by
  rw [← ft_swap f g, ← ft_swap g h, ← ft_swap f h]
  exact ⟨ft_core nf ng nh, ft_core nf nh ng, ft_core ng nf nh, ft_core ng nh nf, ft_core nh nf ng, ft_core nh ng nf⟩
theorem bef_trans {f g h : H3} (nf : nz f) (ng : nz g) (nh : nz h) (k1 : bef f g = true) (k2 : bef g h = true) : bef f h = true := by
  have := three_ft nf ng nh
  rw [bef_ft] at *
  cases e1 : up f <;> cases e2 : up g <;> cases e3 : up h <;> simp [e1, e2, e3] at k1 k2 ⊢ <;> omega
theorem bef_irr (f : H3) : bef f f = false := by
  unfold bef; simp; grind
theorem bef_asym {f g : H3} (h : bef f g = true) : bef g f = false := by
  have := ft_swap f g
  rw [bef_ft] at *
  cases e1 : up f <;> cases e2 : up g <;> simp [e1, e2] at h ⊢ <;> omega
theorem bef_tri (f g : H3) : bef f g = true ∨ bef g f = true ∨ sd f g = true := by
  have := ft_swap f g
  rw [bef_ft, bef_ft g f, sd_ft]
  cases e1 : up f <;> cases e2 : up g <;> simp <;> omega
/-- behind h, around: once half a turn is passed, it stays passed -/
theorem past_bb {h x y : H3} (nh : nz h) (nx : nz x) (ny : nz y) (k1 : bef h x = true) (k2 : bef h y = true) (k3 : bef x y = true) (l : tn h x < 0) : tn h y ≤ 0 := by
  have := three_ft nh nx ny
  rw [bef_ft] at *; rw [tn_ft] at *
  cases e1 : up h <;> cases e2 : up x <;> cases e3 : up y <;> simp [e1, e2, e3] at k1 k2 k3 l ⊢ <;> omega
theorem past_aa {h x y : H3} (nh : nz h) (nx : nz x) (ny : nz y) (k1 : bef h x = false) (k2 : bef h y = false) (k3 : bef x y = true) (l : tn h x < 0) : tn h y ≤ 0 := by
  have := three_ft nh nx ny
  rw [bef_ft] at *; rw [tn_ft] at *
  cases e1 : up h <;> cases e2 : up x <;> cases e3 : up y <;> simp [e1, e2, e3] at k1 k2 k3 l ⊢ <;> omega
theorem past_ba {h x y : H3} (nh : nz h) (nx : nz x) (ny : nz y) (k1 : bef h x = true) (k2 : bef h y = false) (l : tn h x < 0) : tn h y ≤ 0 := by
  have := three_ft nh nx ny
  rw [bef_ft] at *; rw [tn_ft] at *
  cases e1 : up h <;> cases e2 : up x <;> cases e3 : up y <;> simp [e1, e2, e3] at k1 k2 l ⊢ <;> omega
/-- between the last and the first -/
theorem betw_ab {h l f : H3} (nh : nz h) (nl : nz l) (nf : nz f) (k1 : bef h l = false) (k2 : bef h f = true) (t : 0 < tn l f) : 0 ≤ tn l h ∧ 0 ≤ tn h f := by
  have := three_ft nh nl nf
  have := ft_swap h l
  rw [bef_ft] at *; rw [tn_ft] at *
  cases e1 : up h <;> cases e2 : up l <;> cases e3 : up f <;> simp [e1, e2, e3, tn_ft] at k1 k2 t ⊢ <;> omega
theorem betw_bb {h l f : H3} (nh : nz h) (nl : nz l) (nf : nz f) (k1 : bef h l = true) (k2 : bef h f = true) (k3 : bef f l = true) (t : 0 < tn l f) : 0 ≤ tn l h ∧ 0 ≤ tn h f := by
  have := three_ft nh nl nf
  have := ft_swap h l
  have := ft_swap l f
  rw [bef_ft] at *; rw [tn_ft] at *
  cases e1 : up h <;> cases e2 : up l <;> cases e3 : up f <;> simp [e1, e2, e3, tn_ft] at k1 k2 k3 t ⊢ <;> omega
theorem betw_aa {h l f : H3} (nh : nz h) (nl : nz l) (nf : nz f) (k1 : bef h l = false) (k2 : bef h f = false) (k3 : bef f l = true) (t : 0 < tn l f) : 0 ≤ tn l h ∧ 0 ≤ tn h f := by
  have := three_ft nh nl nf
  have := ft_swap h l
  have := ft_swap l f
  rw [bef_ft] at *; rw [tn_ft] at *
  cases e1 : up h <;> cases e2 : up l <;> cases e3 : up f <;> simp [e1, e2, e3, tn_ft] at k1 k2 k3 t ⊢ <;> omega
/-- a direction that is the same turns the same way -/
theorem sd_turn {f h g : H3} (nf : nz f) (nh : nz h) (ng : nz g) (k : sd f h = true) : tn f h = 0 ∧ (0 < tn f g → 0 < tn h g) ∧ (0 < tn g f → 0 < tn g h) := by
  have := three_ft nf nh ng
  have := ft_swap f g
  have := ft_swap h g
  rw [sd_ft] at k
  rw [tn_ft, tn_ft, tn_ft, tn_ft, tn_ft]
  cases e1 : up f <;> cases e2 : up h <;> cases up g <;> simp [e1, e2] at k ⊢ <;> omega
/-- each element with the one behind it, the last one with z -/
def prs : List H3 → H3 → List (H3 × H3)
  | [], _ => []
  | x :: l, z => (x, l.headD z) :: prs l z
def cyc (l : List H3) : List (H3 × H3) := prs l (l.headD ⟨0, 0, 0⟩)
theorem prs_append (l m : List H3) (z : H3) : prs (l ++ m) z = prs l (m.headD z) ++ prs m z := by
  induction l with
  | nil => rfl
  | cons x l ih => simp only [List.cons_append, prs, ih]; cases l <;> simp [prs]
theorem prs_fst (l : List H3) (z : H3) : (prs l z).map Prod.fst = l := by
  induction l with
  | nil => rfl
  | cons x l ih => simp [prs, ih]
theorem prs_mem {l : List H3} {z : H3} {p : H3 × H3} (h : p ∈ prs l z) : p.1 ∈ l ∧ (p.2 ∈ l ∨ p.2 = z) := by
  induction l with
  | nil => simp [prs] at h
  | cons x l ih =>
    simp only [prs, List.mem_cons] at h
    rcases h with rfl | h
    · refine ⟨by simp, ?_⟩
      cases l <;> simp
    · have := ih h
      simp only [List.mem_cons]
      grind
theorem cyc_mem {l : List H3} {p : H3 × H3} (h : p ∈ cyc l) : p.1 ∈ l ∧ p.2 ∈ l := by
  have k := prs_mem h
  refine ⟨k.1, ?_⟩
  rcases k.2 with k | k
  · exact k
  · rw [k]
    cases l with
    | nil => simp [cyc, prs] at h
    | cons x l => simp
theorem cyc_turn (l m : List H3) (p : H3 × H3) : p ∈ cyc (l ++ m) ↔ p ∈ cyc (m ++ l) := by
  cases l with
  | nil => simp
  | cons x l =>
    cases m with
    | nil => simp
    | cons y m =>
      unfold cyc
      rw [prs_append, prs_append]
      simp only [List.cons_append, List.headD_cons, List.mem_append]
      exact Or.comm
/-- corner inside -/
def ng (h : H3) (p : H3 × H3) : Bool := decide (D p.1 p.2 h < 0)
/-- the edges that have a corner inside; s: whether the corner before the first is inside -/
def keep (h : H3) : Bool → List (H3 × H3) → List H3
  | _, [] => []
  | s, p :: l => if s || ng h p then p.1 :: keep h (ng h p) l else keep h (ng h p) l
def lastN (h : H3) (s : Bool) : List (H3 × H3) → Bool
  | [] => s
  | p :: l => lastN h (ng h p) l
theorem keep_append (h : H3) (s : Bool) (l m : List (H3 × H3)) : keep h s (l ++ m) = keep h s l ++ keep h (lastN h s l) m := by
  induction l generalizing s with
  | nil => rfl
  | cons p l ih => simp only [List.cons_append, keep, lastN]; split <;> simp [ih]
theorem lastN_append (h : H3) (s : Bool) (l m : List (H3 × H3)) : lastN h s (l ++ m) = lastN h (lastN h s l) m := by
  induction l generalizing s with
  | nil => rfl
  | cons p l ih => simp only [List.cons_append, lastN, ih]
theorem lastN_cons (h : H3) (s t : Bool) (l : List (H3 × H3)) (k : l ≠ []) : lastN h s l = lastN h t l := by
  cases l with
  | nil => exact absurd rfl k
  | cons p l => rfl
theorem keep_sub (h : H3) (s : Bool) (l : List (H3 × H3)) : (keep h s l).Sublist (l.map Prod.fst) := by
  induction l generalizing s with
  | nil => simp [keep]
  | cons p l ih =>
    simp only [keep, List.map_cons]
    split
    · exact (ih _).cons_cons _
    · exact (ih _).cons _
/-- what is kept of an edge in front of h and behind it -/
def Loc (h : H3) : Bool → List (H3 × H3) → Prop
  | _, [] => True
  | s, p :: l => (s = false → ng h p = true → 0 < tn h p.1) ∧ (s = true → ng h p = false → tn h p.1 < 0) ∧ Loc h (ng h p) l
theorem keep_none {h : H3} {l : List (H3 × H3)} (loc : Loc h false l) (k : ∀ p ∈ l, tn h p.1 ≤ 0) : keep h false l = [] := by
  induction l with
  | nil => rfl
  | cons p l ih =>
    have e : ng h p = false := by
      cases e : ng h p with
      | false => rfl
      | true => have := loc.1 rfl e; have := k p (by simp); omega
    have l2 := loc.2.2
    rw [e] at l2
    simp only [keep, e, Bool.or_self, Bool.false_eq_true, if_false]
    exact ih l2 fun q hq => k q (by simp [hq])
theorem keep_run {h z : H3} {r : List H3} (loc : Loc h true (prs r z)) (pw : r.Pairwise fun x y => tn h x < 0 → tn h y ≤ 0) (e : lastN h true (prs r z) = false) :
    ∃ Y m Z, r = Y ++ m :: Z ∧ keep h true (prs r z) = Y ++ [m] ∧ (∀ p ∈ prs Y m, ng h p = true) ∧ ng h (m, Z.headD z) = false := by
  induction r with
  | nil => simp [prs, lastN] at e
  | cons x r ih =>
    simp only [prs] at loc e ⊢
    simp only [List.pairwise_cons] at pw
    cases en : ng h (x, r.headD z) with
    | false =>
      have k := loc.2.1 rfl en
      have l2 := loc.2.2
      rw [en] at l2
      refine ⟨[], x, r, rfl, ?_, by simp [prs], en⟩
      simp only [keep, en, Bool.true_or, if_true, List.nil_append]
      rw [keep_none l2]
      intro p hp
      exact pw.1 p.1 (prs_mem hp).1 k
    | true =>
      have l2 := loc.2.2
      rw [en] at l2
      simp only [lastN, en] at e
      obtain ⟨Y, m, Z, e1, e2, e3, e4⟩ := ih l2 pw.2 e
      refine ⟨x :: Y, m, Z, by rw [e1]; rfl, ?_, ?_, e4⟩
      · simp only [keep, en, Bool.true_or, if_true, e2]; rfl
      · intro p hp
        simp only [prs, List.mem_cons] at hp
        rcases hp with rfl | hp
        · rw [e1] at en
          cases Y <;> simpa using en
        · exact e3 p hp
theorem keep_rot {h z : H3} {r : List H3} (loc : Loc h false (prs r z)) (pw : r.Pairwise fun x y => tn h x < 0 → tn h y ≤ 0) (e : lastN h false (prs r z) = false) (some : ∃ p ∈ prs r z, ng h p = true) :
    ∃ X y Y m Z, r = X ++ y :: Y ++ m :: Z ∧ keep h false (prs r z) = y :: Y ++ [m] ∧ (∀ p ∈ prs (y :: Y) m, ng h p = true) ∧ ng h (m, Z.headD z) = false ∧ (∀ p ∈ prs X y, ng h p = false) := by
  induction r with
  | nil => simp [prs] at some
  | cons x r ih =>
    simp only [prs] at loc e ⊢
    simp only [List.pairwise_cons] at pw
    have l2 := loc.2.2
    cases en : ng h (x, r.headD z) with
    | false =>
      rw [en] at l2
      simp only [lastN, en] at e
      have s2 : ∃ p ∈ prs r z, ng h p = true := by
        obtain ⟨p, hp, k⟩ := some
        simp only [prs, List.mem_cons] at hp
        rcases hp with rfl | hp
        · rw [en] at k; exact absurd k (by simp)
        · exact ⟨p, hp, k⟩
      obtain ⟨X, y, Y, m, Z, e1, e2, e3, e4, e5⟩ := ih l2 pw.2 e s2
      refine ⟨x :: X, y, Y, m, Z, by rw [e1]; rfl, ?_, e3, e4, ?_⟩
      · simp only [keep, en, Bool.or_self, Bool.false_eq_true, if_false]; exact e2
      · intro p hp
        simp only [prs, List.mem_cons] at hp
        rcases hp with rfl | hp
        · rw [e1] at en
          cases X <;> simpa using en
        · exact e5 p hp
    | true =>
      rw [en] at l2
      simp only [lastN, en] at e
      obtain ⟨Y, m, Z, e1, e2, e3, e4⟩ := keep_run l2 pw.2 e
      refine ⟨[], x, Y, m, Z, by rw [e1]; rfl, ?_, ?_, e4, by simp [prs]⟩
      · simp only [keep, en, Bool.or_true, if_true, e2]; rfl
      · intro p hp
        simp only [List.mem_cons] at hp
        rcases hp with rfl | hp
        · rw [e1] at en
          cases Y <;> simpa using en
        · exact e3 p hp
/-- what each corner of a convex polygon says -/
def Crn (E : List H3) (p : H3 × H3) : Prop := 0 < tn p.1 p.2 ∧ ∀ e ∈ E, e ≠ p.1 → e ≠ p.2 → D p.1 p.2 e < 0
theorem Crn.le {E : List H3} {p : H3 × H3} (h : Crn E p) {e : H3} (k : e ∈ E) : D p.1 p.2 e ≤ 0 := by
  by_cases e1 : e = p.1
  · rw [e1, D_same1]; exact Int.le_refl _
  · by_cases e2 : e = p.2
    · rw [e2, D_same2]; exact Int.le_refl _
    · exact Int.le_of_lt (h.2 e k e1 e2)
theorem Crn.ne {E : List H3} {u x y : H3} (h : Crn E (u, x)) (k : Crn E (x, y)) : y ≠ u ∧ y ≠ x ∧ x ≠ u := by
  have h1 := h.1
  have k1 := k.1
  simp only at h1 k1
  refine ⟨?_, ?_, ?_⟩
  · rintro rfl; rw [tn_swap] at k1; omega
  · rintro rfl; have : tn y y = 0 := by unfold tn; grind
    omega
  · rintro rfl; have : tn x x = 0 := by unfold tn; grind
    omega
theorem Crn.lt {E : List H3} {u x y : H3} (h : Crn E (u, x)) (k : Crn E (x, y)) (m : y ∈ E) : D u x y < 0 := by
  have n := h.ne k
  exact h.2 y m n.1 n.2.1
theorem ng_t {h f g : H3} : ng h (f, g) = true ↔ D f g h < 0 := by unfold ng; simp
theorem ng_f {h f g : H3} : ng h (f, g) = false ↔ 0 ≤ D f g h := by unfold ng; simp
theorem ng_p (h : H3) (p : H3 × H3) : ng h p = true ↔ D p.1 p.2 h < 0 := by unfold ng; simp
/-- a corner outside behind one inside, or the other way round, tells on which side of h an edge turns -/
theorem loc1 {E : List H3} {h u x y : H3} (c1 : Crn E (u, x)) (c2 : Crn E (x, y)) (m : y ∈ E) :
    (0 ≤ D u x h → D x y h < 0 → 0 < tn h x) ∧ (D u x h < 0 → 0 ≤ D x y h → tn h x < 0) := by
  have d := c1.lt c2 m
  have e := id2 u x y h
  have t1 := c1.1
  have t2 := c2.1
  simp only at t1 t2
  refine ⟨fun a b => pos_of_neg d ?_, fun a b => neg_of d ?_⟩
  · have := Int.mul_neg_of_pos_of_neg t1 b
    have := Int.mul_nonneg (Int.le_of_lt t2) a
    omega
  · have := Int.mul_nonneg (Int.le_of_lt t1) b
    have := Int.mul_neg_of_pos_of_neg t2 a
    omega
theorem loc_of {E : List H3} {h z : H3} (c : ∀ p ∈ cyc E, Crn E p) (r : List H3) : ∀ u : H3, (∀ p ∈ prs (u :: r) z, p ∈ cyc E) → Loc h (ng h (u, r.headD z)) (prs r z) := by
  induction r with
  | nil => intro u k; trivial
  | cons x r ih =>
    intro u k
    have k1 := k (u, x) (by simp [prs])
    have k2 := k (x, r.headD z) (by simp [prs])
    have l := loc1 (h := h) (c _ k1) (c _ k2) (cyc_mem k2).2
    simp only [List.headD_cons, prs, Loc]
    refine ⟨fun a b => l.1 (ng_f.1 a) (ng_t.1 b), fun a b => l.2 (ng_t.1 a) (ng_f.1 b), ih x fun p hp => k p ?_⟩
    simp only [prs, List.mem_cons] at hp ⊢
    exact Or.inr hp
/-- the new corner at which the border begins -/
theorem new_start {E : List H3} {h u y z : H3} (c1 : Crn E (u, y)) (c2 : Crn E (y, z)) (m : z ∈ E) (a : 0 ≤ D u y h) (b : D y z h < 0) :
    0 < tn h y ∧ (∀ e, D u y e ≤ 0 → D y z e ≤ 0 → D h y e ≤ 0) ∧ (∀ e, D u y e < 0 → D y z e ≤ 0 → D h y e < 0) ∧ (∀ e, D u y e ≤ 0 → D y z e < 0 → 0 < D u y h → D h y e < 0) := by
  have d := c1.lt c2 m
  refine ⟨(loc1 c1 c2 m).1 a b, fun e p q => nonpos_of d ?_, fun e p q => neg_of d ?_, fun e p q r => neg_of d ?_⟩
  all_goals rw [id3]
  · have := Int.mul_nonneg_of_nonpos_of_nonpos p (Int.le_of_lt b)
    have := Int.mul_nonpos_of_nonneg_of_nonpos a q
    omega
  · have := Int.mul_pos_of_neg_of_neg p b
    have := Int.mul_nonpos_of_nonneg_of_nonpos a q
    omega
  · have := Int.mul_nonneg_of_nonpos_of_nonpos p (Int.le_of_lt b)
    have := Int.mul_neg_of_pos_of_neg r q
    omega
theorem new_end {E : List H3} {h x m z : H3} (c1 : Crn E (x, m)) (c2 : Crn E (m, z)) (mz : z ∈ E) (a : D x m h < 0) (b : 0 ≤ D m z h) :
    0 < tn m h ∧ (∀ e, D x m e ≤ 0 → D m z e ≤ 0 → D m h e ≤ 0) ∧ (∀ e, D x m e ≤ 0 → D m z e < 0 → D m h e < 0) ∧ (∀ e, D x m e < 0 → D m z e ≤ 0 → 0 < D m z h → D m h e < 0) := by
  have d := c1.lt c2 mz
  have id : ∀ e, D x m z * D m h e = D x m h * D m z e - D x m e * D m z h := fun e => by
    have := id3 x m z h e
    rw [D_swap h m e, Int.mul_neg]; omega
  refine ⟨?_, fun e p q => nonpos_of d ?_, fun e p q => neg_of d ?_, fun e p q r => neg_of d ?_⟩
  · have := (loc1 c1 c2 mz).2 a b
    rw [tn_swap h m]; omega
  all_goals rw [id]
  · have := Int.mul_nonneg_of_nonpos_of_nonpos (Int.le_of_lt a) q
    have := Int.mul_nonpos_of_nonpos_of_nonneg p b
    omega
  · have := Int.mul_pos_of_neg_of_neg a q
    have := Int.mul_nonpos_of_nonpos_of_nonneg p b
    omega
  · have := Int.mul_nonneg_of_nonpos_of_nonpos (Int.le_of_lt a) q
    have := Int.mul_neg_of_neg_of_pos p r
    omega
/-- the corner next to h's direction is the one farthest out -/
theorem far_out {E : List H3} {h l f p q : H3} (c : Crn E (l, f)) (cp : Crn E (p, q)) (ml : l ∈ E) (mf : f ∈ E) (t1 : 0 ≤ tn l h) (t2 : 0 ≤ tn h f) (o : 0 < D p q h) : 0 < D l f h := by
  have e := id5 l f h p q
  have a1 := Int.mul_nonpos_of_nonneg_of_nonpos t2 (cp.le ml)
  have a2 := Int.mul_nonpos_of_nonneg_of_nonpos t1 (cp.le mf)
  have a3 := Int.mul_pos c.1 o
  simp only at a1 a2 a3
  exact pos_of cp.1 (by simp only; omega)
/-- a polygon that starts behind h's direction, cut by h -/
theorem cut_rot {h r0 : H3} {r' : List H3} {l : H3} {s' : List H3} (e : r0 :: r' = s' ++ [l]) (nd : (r0 :: r').Nodup) (c : ∀ p ∈ cyc (r0 :: r'), Crn (r0 :: r') p)
    (pw : (r0 :: r').Pairwise fun x y => tn h x < 0 → tn h y ≤ 0) (t1 : 0 ≤ tn l h) (t2 : 0 ≤ tn h r0) (out : ∃ p ∈ cyc (r0 :: r'), 0 < D p.1 p.2 h) (inn : ∃ p ∈ cyc (r0 :: r'), ng h p = true) :
    2 ≤ (keep h false (cyc (r0 :: r'))).length ∧ (∀ p ∈ cyc (h :: keep h false (cyc (r0 :: r'))), Crn (h :: keep h false (cyc (r0 :: r'))) p ∧ D p.1 p.2 h ≤ 0 ∧ ∀ g, (∀ q ∈ cyc (r0 :: r'), D q.1 q.2 g ≤ 0) → D p.1 p.2 g ≤ 0) ∧
    (∀ y ∈ keep h false (cyc (r0 :: r')), ∃ p ∈ cyc (r0 :: r'), D p.1 p.2 h < 0 ∧ (p.1 = y ∨ p.2 = y)) ∧ (0 < D l r0 h) := by
  have cy : cyc (r0 :: r') = prs (r0 :: r') r0 := rfl
  have cl : cyc (r0 :: r') = prs s' l ++ [(l, r0)] := by rw [cy, e, prs_append]; rfl
  have wm : (l, r0) ∈ cyc (r0 :: r') := by rw [cl]; simp
  have lm : l ∈ r0 :: r' := (cyc_mem wm).1
  have r0m : r0 ∈ r0 :: r' := by simp
  have wrap : 0 < D l r0 h := by
    obtain ⟨p, hp, k⟩ := out
    exact far_out (c _ wm) (c p hp) lm r0m t1 t2 k
  have wn : ng h (l, r0) = false := ng_f.2 (Int.le_of_lt wrap)
  have loc : Loc h false (prs (r0 :: r') r0) := by
    have := loc_of (h := h) (z := r0) c (r0 :: r') l (fun p hp => by
      simp only [prs, List.mem_cons, List.headD_cons] at hp
      rcases hp with rfl | hp
      · exact wm
      · rw [cy]; simp only [prs, List.mem_cons]; exact hp)
    simp only [List.headD_cons, wn] at this
    exact this
  have la : lastN h false (prs (r0 :: r') r0) = false := by
    rw [← cy, cl, lastN_append]; simp only [lastN, wn]
  obtain ⟨X, y, Y, m, Z, e1, e2, e3, e4, e5⟩ := keep_rot loc pw la (by rw [← cy]; exact inn)
  rw [← cy] at e2
  have K : keep h false (cyc (r0 :: r')) = y :: Y ++ [m] := e2
  have cy2 : cyc (r0 :: r') = prs X y ++ (prs (y :: Y) m ++ ((m, Z.headD r0) :: prs Z r0)) := by
    rw [cy, e1, List.append_assoc, prs_append, prs_append]; rfl
  have nd2 := nd
  rw [e1, List.append_assoc] at nd2
  have sub : ∀ x ∈ y :: Y ++ [m], x ∈ r0 :: r' := by
    intro x hx; rw [e1]; simp only [List.mem_append, List.mem_cons, List.not_mem_nil, or_false] at hx ⊢; grind
  have mid : ∀ p ∈ prs (y :: Y) m, p ∈ cyc (r0 :: r') := by
    intro p hp; rw [cy2]; simp only [List.mem_append]; exact Or.inr (Or.inl hp)
  have hm : (m, Z.headD r0) ∈ cyc (r0 :: r') := by rw [cy2]; simp
  -- the corner in front of y
  have hu : ∃ u, (u, y) ∈ cyc (r0 :: r') ∧ ng h (u, y) = false ∧ (u ∈ y :: Y ++ [m] → 0 < D u y h) := by
    rcases List.eq_nil_or_concat X with rfl | ⟨X', u, rfl⟩
    · have : y = r0 := by simp at e1; exact e1.1.symm
      subst this
      exact ⟨l, wm, wn, fun _ => wrap⟩
    · have hp : (u, y) ∈ prs (X'.concat u) y := by rw [List.concat_eq_append, prs_append]; simp [prs]
      refine ⟨u, by rw [cy2]; simp only [List.mem_append]; exact Or.inl hp, e5 _ hp, fun k => ?_⟩
      exfalso
      rw [List.nodup_append] at nd2
      refine nd2.2.2 u (by simp) u ?_ rfl
      simp only [List.mem_append, List.mem_cons, List.not_mem_nil, or_false] at k ⊢
      grind
  obtain ⟨u, hu1, hu2, hu3⟩ := hu
  have hz : Z.headD r0 ∈ y :: Y ++ [m] → 0 < D m (Z.headD r0) h := by
    intro k
    cases Z with
    | nil =>
      have el : (r0 :: r').getLast? = some m := by rw [e1, List.getLast?_append]; rfl
      have el2 : (r0 :: r').getLast? = some l := by rw [e, List.getLast?_append]; rfl
      have : l = m := by rw [el] at el2; exact (Option.some.inj el2).symm
      subst this
      simpa using wrap
    | cons z Z =>
      exfalso
      simp only [List.headD_cons] at k
      rw [List.nodup_append] at nd2
      have n3 := nd2.2.1
      rw [← List.singleton_append (l := z :: Z), ← List.append_assoc, List.nodup_append] at n3
      exact n3.2.2 z k z (by simp) rfl
  have yz : (y, Y.headD m) ∈ prs (y :: Y) m := by simp [prs]
  have ns := new_start (c _ hu1) (c _ (mid _ yz)) (cyc_mem (mid _ yz)).2 (ng_f.1 hu2) (ng_t.1 (e3 _ yz))
  have hx : ∃ x, (x, m) ∈ prs (y :: Y) m := by
    rcases List.eq_nil_or_concat (y :: Y) with k | ⟨Y', x, k⟩
    · cases k
    · exact ⟨x, by rw [k, List.concat_eq_append, prs_append]; simp [prs]⟩
  obtain ⟨x, hx⟩ := hx
  have ne := new_end (c _ (mid _ hx)) (c _ hm) (cyc_mem hm).2 (ng_t.1 (e3 _ hx)) (ng_f.1 e4)
  rw [K]
  have cN : cyc (h :: (y :: Y ++ [m])) = (h, y) :: (prs (y :: Y) m ++ [(m, h)]) := by
    show (h, y) :: prs (y :: Y ++ [m]) h = _
    rw [prs_append]; rfl
  refine ⟨by simp, ?_, ?_, wrap⟩
  · intro p hp
    rw [cN] at hp
    simp only [List.mem_cons, List.mem_append, List.not_mem_nil, or_false] at hp
    rcases hp with rfl | hp | rfl
    · refine ⟨⟨ns.1, ?_⟩, by rw [D_same1]; exact Int.le_refl _, fun g k => ns.2.1 g (k (u, y) hu1) (k (y, Y.headD m) (mid _ yz))⟩
      intro e' he n1 n2
      simp only at n1 n2 ⊢
      have ek : e' ∈ y :: Y ++ [m] := by
        simp only [List.mem_cons] at he
        rcases he with he | he
        · exact absurd he n1
        · simpa using he
      by_cases eu : e' = u
      · subst eu
        have nn := (c _ hu1).ne (c _ (mid _ yz))
        exact ns.2.2.2 e' ((c _ hu1).le (sub _ ek)) ((c _ (mid _ yz)).2 e' (sub _ ek) n2 (fun q => nn.1 q.symm)) (hu3 ek)
      · exact ns.2.2.1 e' ((c _ hu1).2 e' (sub _ ek) eu n2) ((c _ (mid _ yz)).le (sub _ ek))
    · have hin := (ng_p h p).1 (e3 p hp)
      refine ⟨⟨(c _ (mid _ hp)).1, ?_⟩, Int.le_of_lt hin, fun g k => k p (mid p hp)⟩
      intro e' he n1 n2
      simp only [List.mem_cons] at he
      rcases he with rfl | he
      · exact hin
      · exact (c _ (mid _ hp)).2 e' (sub _ (by simpa using he)) n1 n2
    · refine ⟨⟨ne.1, ?_⟩, by rw [D_same2]; exact Int.le_refl _, fun g k => ne.2.1 g (k (x, m) (mid _ hx)) (k (m, Z.headD r0) hm)⟩
      intro e' he n1 n2
      simp only at n1 n2 ⊢
      have ek : e' ∈ y :: Y ++ [m] := by
        simp only [List.mem_cons] at he
        rcases he with he | he
        · exact absurd he n2
        · simpa using he
      by_cases ez : e' = Z.headD r0
      · subst ez
        have nn := (c _ (mid _ hx)).ne (c _ hm)
        exact ne.2.2.2 _ ((c _ (mid _ hx)).2 _ (sub _ ek) nn.1 nn.2.1) ((c _ hm).le (sub _ ek)) (hz ek)
      · exact ne.2.2.1 e' ((c _ (mid _ hx)).le (sub _ ek)) ((c _ hm).2 e' (sub _ ek) n1 ez)
  · intro v hv
    rcases List.mem_append.1 hv with hv | hv
    · have : v ∈ (prs (y :: Y) m).map Prod.fst := by rw [prs_fst]; exact hv
      obtain ⟨p, hp, rfl⟩ := List.mem_map.1 this
      exact ⟨p, mid _ hp, (ng_p h p).1 (e3 _ hp), Or.inl rfl⟩
    · simp at hv
      subst hv
      exact ⟨(x, v), mid _ hx, ng_t.1 (e3 _ hx), Or.inr rfl⟩
end Go.Proofs.Ytobmaajfdpcfmaa.Geo
