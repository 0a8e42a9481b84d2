/- Half planes as triples of numbers: turns, crossings, the order of directions; polygons given by their edges, and what is left of one that is cut by a half plane. Plain mathematics, without the translation. -/
namespace Go.Proofs.Ytibkmhmeoelpdaa.Geo
structure H3 where
  a : Int
  b : Int
  c : Int
instance : DecidableEq H3 := fun x y => decidable_of_iff (x.a = y.a ∧ x.b = y.b ∧ x.c = y.c) (by cases x; cases y; simp)
def tn (f g : H3) : Int := f.a * g.b - f.b * g.a
def D (f g k : H3) : Int := k.a * (f.c * g.b - f.b * g.c) + k.b * (f.a * g.c - f.c * g.a) - k.c * (f.a * g.b - f.b * g.a)
def val (h : H3) (X Y W : Int) : Int := h.a * X + h.b * Y - h.c * W
def nz (h : H3) : Prop := h.a ≠ 0 ∨ h.b ≠ 0
def up (h : H3) : Bool := decide (0 < h.b) || (decide (h.b = 0) && decide (0 < h.a))
def bef (f g : H3) : Bool := if up f = up g then decide (0 < f.a * g.b - f.b * g.a) else up f
def sd (f g : H3) : Bool := decide (f.a * g.b - f.b * g.a = 0) && (up f == up g)
theorem tn_swap (f g : H3) : tn g f = -tn f g := by unfold tn; grind
theorem D_rot (f g k : H3) : D g k f = D f g k := by unfold D; grind
theorem D_rot2 (f g k : H3) : D k f g = D f g k := by unfold D; grind
theorem D_swap (f g k : H3) : D g f k = -D f g k := by unfold D; grind
theorem D_same1 (f g : H3) : D f g f = 0 := by unfold D; grind
theorem D_same2 (f g : H3) : D f g g = 0 := by unfold D; grind
theorem id2 (x g z h : H3) : D x g z * tn h g = tn x g * D g z h - tn g z * D x g h := by unfold D tn; grind
theorem id3 (x g z h e : H3) : D x g z * D h g e = D x g e * D g z h - D x g h * D g z e := by unfold D; grind
theorem id4 (f g h : H3) (X Y W : Int) : tn f g * val h X Y W = tn h g * val f X Y W + tn f h * val g X Y W + W * D f g h := by unfold D tn val; grind
theorem val_cross (f g h : H3) : val h (f.c * g.b - f.b * g.c) (f.a * g.c - f.c * g.a) (tn f g) = D f g h := by unfold D tn val; grind
theorem id5 (f g h p q : H3) : tn f g * D p q h = tn h g * D p q f + tn f h * D p q g + tn p q * D f g h := by unfold D tn; grind
theorem neg_of {a b : Int} (h : a < 0) (k : 0 < a * b) : b < 0 := by
  rcases Int.lt_or_le b 0 with hb | hb
  · exact hb
  · have := Int.mul_nonpos_of_nonpos_of_nonneg (Int.le_of_lt h) hb; omega
theorem nonpos_of {a b : Int} (h : a < 0) (k : 0 ≤ a * b) : b ≤ 0 := by
  rcases Int.lt_or_le 0 b with hb | hb
  · have := Int.mul_neg_of_neg_of_pos h hb; omega
  · exact hb
theorem pos_of_neg {a b : Int} (h : a < 0) (k : a * b < 0) : 0 < b := by
  rcases Int.lt_or_le 0 b with hb | hb
  · exact hb
  · have := Int.mul_nonneg_of_nonpos_of_nonpos (Int.le_of_lt h) hb; omega
theorem pos_of {a b : Int} (h : 0 < a) (k : 0 < a * b) : 0 < b := by
  rcases Int.lt_or_le 0 b with hb | hb
  · exact hb
  · have := Int.mul_nonpos_of_nonneg_of_nonpos (Int.le_of_lt h) hb; omega
theorem nonneg_of {a b : Int} (h : 0 < a) (k : 0 ≤ a * b) : 0 ≤ b := by
  rcases Int.lt_or_le b 0 with hb | hb
  · have := Int.mul_neg_of_pos_of_neg h hb; omega
  · exact hb
theorem neg_of_pos {a b : Int} (h : 0 < a) (k : a * b < 0) : b < 0 := by
  rcases Int.lt_or_le b 0 with hb | hb
  · exact hb
  · have := Int.mul_nonneg (Int.le_of_lt h) hb; omega
theorem nonpos_of_pos {a b : Int} (h : 0 < a) (k : a * b ≤ 0) : b ≤ 0 := by
  rcases Int.lt_or_le 0 b with hb | hb
  · have := Int.mul_pos h hb; omega
  · exact hb
/-- directions in the first half turn are ordered by the turn -/
theorem core {p q r s t u : Int} (h1 : 0 < q ∨ q = 0 ∧ 0 < p) (h2 : 0 < s ∨ s = 0 ∧ 0 < r) (h3 : 0 < u ∨ u = 0 ∧ 0 < t) (k1 : 0 ≤ p * s - q * r) (k2 : 0 ≤ r * u - s * t) :
    0 ≤ p * u - q * t ∧ (0 < p * s - q * r → 0 < p * u - q * t) ∧ (0 < r * u - s * t → 0 < p * u - q * t) := by
  have e : s * (p * u - q * t) = u * (p * s - q * r) + q * (r * u - s * t) := by grind
  rcases h2 with hs | ⟨hs, hr⟩
  · rcases h3 with hu | ⟨hu, ht⟩
    · rcases h1 with hq | ⟨hq, hp⟩
      · have a1 := Int.mul_nonneg (Int.le_of_lt hu) k1
        have a2 := Int.mul_nonneg (Int.le_of_lt hq) k2
        refine ⟨nonneg_of hs (by omega), fun h => ?_, fun h => ?_⟩
        · have := Int.mul_pos hu h; exact pos_of hs (by omega)
        · have := Int.mul_pos hq h; exact pos_of hs (by omega)
      · subst hq
        have a1 := Int.mul_pos hp hu
        have : p * u - 0 * t = p * u := by grind
        omega
    · subst hu
      have a1 := Int.mul_pos hs ht
      have : r * 0 - s * t = -(s * t) := by grind
      omega
  · subst hs
    rcases h1 with hq | ⟨hq, hp⟩
    · have a1 := Int.mul_pos hq hr
      have : p * 0 - q * r = -(q * r) := by grind
      omega
    · subst hq
      have e1 : p * 0 - 0 * r = 0 := by grind
      have e2 : r * u - 0 * t = r * u := by grind
      have e3 : p * u - 0 * t = p * u := by grind
      rw [e2] at k2 ⊢
      rw [e1, e3]
      have hu := nonneg_of hr k2
      refine ⟨Int.mul_nonneg (Int.le_of_lt hp) hu, fun h => by omega, fun h => Int.mul_pos hp (pos_of hr h)⟩
/-- a direction turned into the first half turn, with its sign -/
def flip (h : H3) : Int × Int := if up h then (h.a, h.b) else (-h.a, -h.b)
theorem flip_up {h : H3} (k : nz h) : 0 < (flip h).2 ∨ (flip h).2 = 0 ∧ 0 < (flip h).1 := by
  unfold flip up; unfold nz at k
  split <;> simp_all <;> omega
def ft (f g : H3) : Int := (flip f).1 * (flip g).2 - (flip f).2 * (flip g).1
theorem ft_swap (f g : H3) : ft g f = -ft f g := by unfold ft; grind
theorem ft_core {f g h : H3} (nf : nz f) (ng : nz g) (nh : nz h) (k1 : 0 ≤ ft f g) (k2 : 0 ≤ ft g h) : 0 ≤ ft f h ∧ (0 < ft f g → 0 < ft f h) ∧ (0 < ft g h → 0 < ft f h) :=
  core (flip_up nf) (flip_up ng) (flip_up nh) k1 k2
theorem tn_ft (f g : H3) : tn f g = if up f = up g then ft f g else -ft f g := by
  unfold tn ft flip
  cases up f <;> cases up g <;> simp <;> grind
theorem bef_ft (f g : H3) : bef f g = if up f = up g then decide (0 < ft f g) else up f := by
  have h := tn_ft f g
  unfold bef
  split
  · rename_i e; rw [if_pos e] at h; unfold tn at h; rw [h]
  · rfl
theorem sd_ft (f g : H3) : sd f g = (decide (ft f g = 0) && (up f == up g)) := by
  have h := tn_ft f g
  unfold sd
  by_cases e : up f = up g
  · rw [if_pos e] at h; unfold tn at h; rw [h]
  · have : (up f == up g) = false := by simpa using e
    rw [this]; simp
/-- all that the order of three directions says of their turns -/
theorem three_ft {f g h : H3} (nf : nz f) (ng : nz g) (nh : nz h) :
    (0 ≤ ft f g → 0 ≤ ft g h → 0 ≤ ft f h ∧ (0 < ft f g → 0 < ft f h) ∧ (0 < ft g h → 0 < ft f h)) ∧
    (0 ≤ ft f h → 0 ≤ -ft g h → 0 ≤ ft f g ∧ (0 < ft f h → 0 < ft f g) ∧ (0 < -ft g h → 0 < ft f g)) ∧
    (0 ≤ -ft f g → 0 ≤ ft f h → 0 ≤ ft g h ∧ (0 < -ft f g → 0 < ft g h) ∧ (0 < ft f h → 0 < ft g h)) ∧
    (0 ≤ ft g h → 0 ≤ -ft f h → 0 ≤ -ft f g ∧ (0 < ft g h → 0 < -ft f g) ∧ (0 < -ft f h → 0 < -ft f g)) ∧
    (0 ≤ -ft f h → 0 ≤ ft f g → 0 ≤ -ft g h ∧ (0 < -ft f h → 0 < -ft g h) ∧ (0 < ft f g → 0 < -ft g h)) ∧
    (0 ≤ -ft g h → 0 ≤ -ft f g → 0 ≤ -ft f h ∧ (0 < -ft g h → 0 < -ft f h) ∧ (0 < -ft f g → 0 < -ft f h)) := by
  rw [← ft_swap f g, ← ft_swap g h, ← ft_swap f h]
  exact ⟨ft_core nf ng nh, ft_core nf nh ng, ft_core ng nf nh, ft_core ng nh nf, ft_core nh nf ng, ft_core nh ng nf⟩
theorem bef_trans {f g h : H3} (nf : nz f) (ng : nz g) (nh : nz h) (k1 : bef f g = true) (k2 : bef g h = true) : bef f h = true := by
  have := three_ft nf ng nh
  rw [bef_ft] at *
  cases e1 : up f <;> cases e2 : up g <;> cases e3 : up h <;> simp [e1, e2, e3] at k1 k2 ⊢ <;> omega
theorem bef_irr (f : H3) : bef f f = false := by
  unfold bef; simp; grind
theorem bef_asym {f g : H3} (h : bef f g = true) : bef g f = false := by
  have := ft_swap f g
  rw [bef_ft] at *
  cases e1 : up f <;> cases e2 : up g <;> simp [e1, e2] at h ⊢ <;> omega
theorem bef_tri (f g : H3) : bef f g = true ∨ bef g f = true ∨ sd f g = true := by
  have := ft_swap f g
  rw [bef_ft, bef_ft g f, sd_ft]
  cases e1 : up f <;> cases e2 : up g <;> simp <;> omega
/-- behind h, around: once half a turn is passed, it stays passed -/
theorem past_bb {h x y : H3} (nh : nz h) (nx : nz x) (ny : nz y) (k1 : bef h x = true) (k2 : bef h y = true) (k3 : bef x y = true) (l : tn h x < 0) : tn h y ≤ 0 := by
  have := three_ft nh nx ny
  rw [bef_ft] at *; rw [tn_ft] at *
  cases e1 : up h <;> cases e2 : up x <;> cases e3 : up y <;> simp [e1, e2, e3] at k1 k2 k3 l ⊢ <;> omega
theorem past_aa {h x y : H3} (nh : nz h) (nx : nz x) (ny : nz y) (k1 : bef h x = false) (k2 : bef h y = false) (k3 : bef x y = true) (l : tn h x < 0) : tn h y ≤ 0 := by
  have := three_ft nh nx ny
  rw [bef_ft] at *; rw [tn_ft] at *
  cases e1 : up h <;> cases e2 : up x <;> cases e3 : up y <;> simp [e1, e2, e3] at k1 k2 k3 l ⊢ <;> omega
theorem past_ba {h x y : H3} (nh : nz h) (nx : nz x) (ny : nz y) (k1 : bef h x = true) (k2 : bef h y = false) (l : tn h x < 0) : tn h y ≤ 0 := by
  have := three_ft nh nx ny
  rw [bef_ft] at *; rw [tn_ft] at *
  cases e1 : up h <;> cases e2 : up x <;> cases e3 : up y <;> simp [e1, e2, e3] at k1 k2 l ⊢ <;> omega
/-- between the last and the first -/
theorem betw_ab {h l f : H3} (nh : nz h) (nl : nz l) (nf : nz f) (k1 : bef h l = false) (k2 : bef h f = true) (t : 0 < tn l f) : 0 ≤ tn l h ∧ 0 ≤ tn h f := by
  have := three_ft nh nl nf
  have := ft_swap h l
  rw [bef_ft] at *; rw [tn_ft] at *
  cases e1 : up h <;> cases e2 : up l <;> cases e3 : up f <;> simp [e1, e2, e3, tn_ft] at k1 k2 t ⊢ <;> omega
theorem betw_bb {h l f : H3} (nh : nz h) (nl : nz l) (nf : nz f) (k1 : bef h l = true) (k2 : bef h f = true) (k3 : bef f l = true) (t : 0 < tn l f) : 0 ≤ tn l h ∧ 0 ≤ tn h f := by
  have := three_ft nh nl nf
  have := ft_swap h l
  have := ft_swap l f
  rw [bef_ft] at *; rw [tn_ft] at *
  cases e1 : up h <;> cases e2 : up l <;> cases e3 : up f <;> simp [e1, e2, e3, tn_ft] at k1 k2 k3 t ⊢ <;> omega
theorem betw_aa {h l f : H3} (nh : nz h) (nl : nz l) (nf : nz f) (k1 : bef h l = false) (k2 : bef h f = false) (k3 : bef f l = true) (t : 0 < tn l f) : 0 ≤ tn l h ∧ 0 ≤ tn h f := by
  have := three_ft nh nl nf
  have := ft_swap h l
  have := ft_swap l f
  rw [bef_ft] at *; rw [tn_ft] at *
  cases e1 : up h <;> cases e2 : up l <;> cases e3 : up f <;> simp [e1, e2, e3, tn_ft] at k1 k2 k3 t ⊢ <;> omega
/-- a direction that is the same turns the same way -/
theorem sd_turn {f h g : H3} (nf : nz f) (nh : nz h) (ng : nz g) (k : sd f h = true) : tn f h = 0 ∧ (0 < tn f g → 0 < tn h g) ∧ (0 < tn g f → 0 < tn g h) := by
  have := three_ft nf nh ng
  have := ft_swap f g
  have := ft_swap h g
  rw [sd_ft] at k
  rw [tn_ft, tn_ft, tn_ft, tn_ft, tn_ft]
  cases e1 : up f <;> cases e2 : up h <;> cases up g <;> simp [e1, e2] at k ⊢ <;> omega
/-- each element with the one behind it, the last one with z -/
def prs : List H3 → H3 → List (H3 × H3)
  | [], _ => []
  | x :: l, z => (x, l.headD z) :: prs l z
def cyc (l : List H3) : List (H3 × H3) := prs l (l.headD ⟨0, 0, 0⟩)
theorem prs_append (l m : List H3) (z : H3) : prs (l ++ m) z = prs l (m.headD z) ++ prs m z := by
  induction l with
  | nil => rfl
  | cons x l ih => simp only [List.cons_append, prs, ih]; cases l <;> simp [prs]
theorem prs_fst (l : List H3) (z : H3) : (prs l z).map Prod.fst = l := by
  induction l with
  | nil => rfl
  | cons x l ih => simp [prs, ih]
theorem prs_mem {l : List H3} {z : H3} {p : H3 × H3} (h : p ∈ prs l z) : p.1 ∈ l ∧ (p.2 ∈ l ∨ p.2 = z) := by
  induction l with
  | nil => simp [prs] at h
  | cons x l ih =>
    simp only [prs, List.mem_cons] at h
    rcases h with rfl | h
    · refine ⟨by simp, ?_⟩
      cases l <;> simp
    · have := ih h
      simp only [List.mem_cons]
      grind
theorem cyc_mem {l : List H3} {p : H3 × H3} (h : p ∈ cyc l) : p.1 ∈ l ∧ p.2 ∈ l := by
  have k := prs_mem h
  refine ⟨k.1, ?_⟩
  rcases k.2 with k | k
  · exact k
  · rw [k]
    cases l with
    | nil => simp [cyc, prs] at h
    | cons x l => simp
theorem cyc_turn (l m : List H3) (p : H3 × H3) : p ∈ cyc (l ++ m) ↔ p ∈ cyc (m ++ l) := by
  cases l with
  | nil => simp
  | cons x l =>
    cases m with
    | nil => simp
    | cons y m =>
      unfold cyc
      rw [prs_append, prs_append]
      simp only [List.cons_append, List.headD_cons, List.mem_append]
      exact Or.comm
/-- corner inside -/
def ng (h : H3) (p : H3 × H3) : Bool := decide (D p.1 p.2 h < 0)
/-- the edges that have a corner inside; s: whether the corner before the first is inside -/
def keep (h : H3) : Bool → List (H3 × H3) → List H3
  | _, [] => []
  | s, p :: l => if s || ng h p then p.1 :: keep h (ng h p) l else keep h (ng h p) l
def lastN (h : H3) (s : Bool) : List (H3 × H3) → Bool
  | [] => s
  | p :: l => lastN h (ng h p) l
theorem keep_append (h : H3) (s : Bool) (l m : List (H3 × H3)) : keep h s (l ++ m) = keep h s l ++ keep h (lastN h s l) m := by
  induction l generalizing s with
  | nil => rfl
  | cons p l ih => simp only [List.cons_append, keep, lastN]; split <;> simp [ih]
theorem lastN_append (h : H3) (s : Bool) (l m : List (H3 × H3)) : lastN h s (l ++ m) = lastN h (lastN h s l) m := by
  induction l generalizing s with
  | nil => rfl
  | cons p l ih => simp only [List.cons_append, lastN, ih]
theorem lastN_cons (h : H3) (s t : Bool) (l : List (H3 × H3)) (k : l ≠ []) : lastN h s l = lastN h t l := by
  cases l with
  | nil => exact absurd rfl k
  | cons p l => rfl
theorem keep_sub (h : H3) (s : Bool) (l : List (H3 × H3)) : (keep h s l).Sublist (l.map Prod.fst) := by
  induction l generalizing s with
  | nil => simp [keep]
  | cons p l ih =>
    simp only [keep, List.map_cons]
    split
    · exact (ih _).cons_cons _
    · exact (ih _).cons _
/-- what is kept of an edge in front of h and behind it -/
def Loc (h : H3) : Bool → List (H3 × H3) → Prop
  | _, [] => True
  | s, p :: l => (s = false → ng h p = true → 0 < tn h p.1) ∧ (s = true → ng h p = false → tn h p.1 < 0) ∧ Loc h (ng h p) l
theorem keep_none {h : H3} {l : List (H3 × H3)} (loc : Loc h false l) (k : ∀ p ∈ l, tn h p.1 ≤ 0) : keep h false l = [] := by
  induction l with
  | nil => rfl
  | cons p l ih =>
    have e : ng h p = false := by
      cases e : ng h p with
      | false => rfl
      | true => have := loc.1 rfl e; have := k p (by simp); omega
    have l2 := loc.2.2
    rw [e] at l2
    simp only [keep, e, Bool.or_self, Bool.false_eq_true, if_false]
    exact ih l2 fun q hq => k q (by simp [hq])
theorem keep_run {h z : H3} {r : List H3} (loc : Loc h true (prs r z)) (pw : r.Pairwise fun x y => tn h x < 0 → tn h y ≤ 0) (e : lastN h true (prs r z) = false) :
    ∃ Y m Z, r = Y ++ m :: Z ∧ keep h true (prs r z) = Y ++ [m] ∧ (∀ p ∈ prs Y m, ng h p = true) ∧ ng h (m, Z.headD z) = false := by
  induction r with
  | nil => simp [prs, lastN] at e
  | cons x r ih =>
    simp only [prs] at loc e ⊢
    simp only [List.pairwise_cons] at pw
    cases en : ng h (x, r.headD z) with
    | false =>
      have k := loc.2.1 rfl en
      have l2 := loc.2.2
      rw [en] at l2
      refine ⟨[], x, r, rfl, ?_, by simp [prs], en⟩
      simp only [keep, en, Bool.true_or, if_true, List.nil_append]
      rw [keep_none l2]
      intro p hp
      exact pw.1 p.1 (prs_mem hp).1 k
    | true =>
      have l2 := loc.2.2
      rw [en] at l2
      simp only [lastN, en] at e
      obtain ⟨Y, m, Z, e1, e2, e3, e4⟩ := ih l2 pw.2 e
      refine ⟨x :: Y, m, Z, by rw [e1]; rfl, ?_, ?_, e4⟩
      · simp only [keep, en, Bool.true_or, if_true, e2]; rfl
      · intro p hp
        simp only [prs, List.mem_cons] at hp
        rcases hp with rfl | hp
        · rw [e1] at en
          cases Y <;> simpa using en
        · exact e3 p hp
theorem keep_rot {h z : H3} {r : List H3} (loc : Loc h false (prs r z)) (pw : r.Pairwise fun x y => tn h x < 0 → tn h y ≤ 0) (e : lastN h false (prs r z) = false) (some : ∃ p ∈ prs r z, ng h p = true) :
    ∃ X y Y m Z, r = X ++ y :: Y ++ m :: Z ∧ keep h false (prs r z) = y :: Y ++ [m] ∧ (∀ p ∈ prs (y :: Y) m, ng h p = true) ∧ ng h (m, Z.headD z) = false ∧ (∀ p ∈ prs X y, ng h p = false) := by
  induction r with
  | nil => simp [prs] at some
  | cons x r ih =>
    simp only [prs] at loc e ⊢
    simp only [List.pairwise_cons] at pw
    have l2 := loc.2.2
    cases en : ng h (x, r.headD z) with
    | false =>
      rw [en] at l2
      simp only [lastN, en] at e
      have s2 : ∃ p ∈ prs r z, ng h p = true := by
        obtain ⟨p, hp, k⟩ := some
        simp only [prs, List.mem_cons] at hp
        rcases hp with rfl | hp
        · rw [en] at k; exact absurd k (by simp)
        · exact ⟨p, hp, k⟩
      obtain ⟨X, y, Y, m, Z, e1, e2, e3, e4, e5⟩ := ih l2 pw.2 e s2
      refine ⟨x :: X, y, Y, m, Z, by rw [e1]; rfl, ?_, e3, e4, ?_⟩
      · simp only [keep, en, Bool.or_self, Bool.false_eq_true, if_false]; exact e2
      · intro p hp
        simp only [prs, List.mem_cons] at hp
        rcases hp with rfl | hp
        · rw [e1] at en
          cases X <;> simpa using en
        · exact e5 p hp
    | true =>
      rw [en] at l2
      simp only [lastN, en] at e
      obtain ⟨Y, m, Z, e1, e2, e3, e4⟩ := keep_run l2 pw.2 e
      refine ⟨[], x, Y, m, Z, by rw [e1]; rfl, ?_, ?_, e4, by simp [prs]⟩
      · simp only [keep, en, Bool.or_true, if_true, e2]; rfl
      · intro p hp
        simp only [List.mem_cons] at hp
        rcases hp with rfl | hp
        · rw [e1] at en
          cases Y <;> simpa using en
        · exact e3 p hp
/-- what each corner of a convex polygon says -/
def Crn (E : List H3) (p : H3 × H3) : Prop := 0 < tn p.1 p.2 ∧ ∀ e ∈ E, e ≠ p.1 → e ≠ p.2 → D p.1 p.2 e < 0
theorem Crn.le {E : List H3} {p : H3 × H3} (h : Crn E p) {e : H3} (k : e ∈ E) : D p.1 p.2 e ≤ 0 := by
  by_cases e1 : e = p.1
  · rw [e1, D_same1]; exact Int.le_refl _
  · by_cases e2 : e = p.2
    · rw [e2, D_same2]; exact Int.le_refl _
    · exact Int.le_of_lt (h.2 e k e1 e2)
theorem Crn.ne {E : List H3} {u x y : H3} (h : Crn E (u, x)) (k : Crn E (x, y)) : y ≠ u ∧ y ≠ x ∧ x ≠ u := by
  have h1 := h.1
  have k1 := k.1
  simp only at h1 k1
  refine ⟨?_, ?_, ?_⟩
  · rintro rfl; rw [tn_swap] at k1; omega
  · rintro rfl; have : tn y y = 0 := by unfold tn; grind
    omega
  · rintro rfl; have : tn x x = 0 := by unfold tn; grind
    omega
theorem Crn.lt {E : List H3} {u x y : H3} (h : Crn E (u, x)) (k : Crn E (x, y)) (m : y ∈ E) : D u x y < 0 := by
  have n := h.ne k
  exact h.2 y m n.1 n.2.1
theorem ng_t {h f g : H3} : ng h (f, g) = true ↔ D f g h < 0 := by unfold ng; simp
theorem ng_f {h f g : H3} : ng h (f, g) = false ↔ 0 ≤ D f g h := by unfold ng; simp
theorem ng_p (h : H3) (p : H3 × H3) : ng h p = true ↔ D p.1 p.2 h < 0 := by unfold ng; simp
/-- a corner outside behind one inside, or the other way round, tells on which side of h an edge turns -/
theorem loc1 {E : List H3} {h u x y : H3} (c1 : Crn E (u, x)) (c2 : Crn E (x, y)) (m : y ∈ E) :
    (0 ≤ D u x h → D x y h < 0 → 0 < tn h x) ∧ (D u x h < 0 → 0 ≤ D x y h → tn h x < 0) := by
  have d := c1.lt c2 m
  have e := id2 u x y h
  have t1 := c1.1
  have t2 := c2.1
  simp only at t1 t2
  refine ⟨fun a b => pos_of_neg d ?_, fun a b => neg_of d ?_⟩
  · have := Int.mul_neg_of_pos_of_neg t1 b
    have := Int.mul_nonneg (Int.le_of_lt t2) a
    omega
  · have := Int.mul_nonneg (Int.le_of_lt t1) b
    have := Int.mul_neg_of_pos_of_neg t2 a
    omega
theorem loc_of {E : List H3} {h z : H3} (c : ∀ p ∈ cyc E, Crn E p) (r : List H3) : ∀ u : H3, (∀ p ∈ prs (u :: r) z, p ∈ cyc E) → Loc h (ng h (u, r.headD z)) (prs r z) := by
  induction r with
  | nil => intro u k; trivial
  | cons x r ih =>
    intro u k
    have k1 := k (u, x) (by simp [prs])
    have k2 := k (x, r.headD z) (by simp [prs])
    have l := loc1 (h := h) (c _ k1) (c _ k2) (cyc_mem k2).2
    simp only [List.headD_cons, prs, Loc]
    refine ⟨fun a b => l.1 (ng_f.1 a) (ng_t.1 b), fun a b => l.2 (ng_t.1 a) (ng_f.1 b), ih x fun p hp => k p ?_⟩
    simp only [prs, List.mem_cons] at hp ⊢
    exact Or.inr hp
/-- the new corner at which the border begins -/
theorem new_start {E : List H3} {h u y z : H3} (c1 : Crn E (u, y)) (c2 : Crn E (y, z)) (m : z ∈ E) (a : 0 ≤ D u y h) (b : D y z h < 0) :
    0 < tn h y ∧ (∀ e, D u y e ≤ 0 → D y z e ≤ 0 → D h y e ≤ 0) ∧ (∀ e, D u y e < 0 → D y z e ≤ 0 → D h y e < 0) ∧ (∀ e, D u y e ≤ 0 → D y z e < 0 → 0 < D u y h → D h y e < 0) := by
  have d := c1.lt c2 m
  refine ⟨(loc1 c1 c2 m).1 a b, fun e p q => nonpos_of d ?_, fun e p q => neg_of d ?_, fun e p q r => neg_of d ?_⟩
  all_goals rw [id3]
  · have := Int.mul_nonneg_of_nonpos_of_nonpos p (Int.le_of_lt b)
    have := Int.mul_nonpos_of_nonneg_of_nonpos a q
    omega
  · have := Int.mul_pos_of_neg_of_neg p b
    have := Int.mul_nonpos_of_nonneg_of_nonpos a q
    omega
  · have := Int.mul_nonneg_of_nonpos_of_nonpos p (Int.le_of_lt b)
    have := Int.mul_neg_of_pos_of_neg r q
    omega
theorem new_end {E : List H3} {h x m z : H3} (c1 : Crn E (x, m)) (c2 : Crn E (m, z)) (mz : z ∈ E) (a : D x m h < 0) (b : 0 ≤ D m z h) :
    0 < tn m h ∧ (∀ e, D x m e ≤ 0 → D m z e ≤ 0 → D m h e ≤ 0) ∧ (∀ e, D x m e ≤ 0 → D m z e < 0 → D m h e < 0) ∧ (∀ e, D x m e < 0 → D m z e ≤ 0 → 0 < D m z h → D m h e < 0) := by
  have d := c1.lt c2 mz
  have id : ∀ e, D x m z * D m h e = D x m h * D m z e - D x m e * D m z h := fun e => by
    have := id3 x m z h e
    rw [D_swap h m e, Int.mul_neg]; omega
  refine ⟨?_, fun e p q => nonpos_of d ?_, fun e p q => neg_of d ?_, fun e p q r => neg_of d ?_⟩
  · have := (loc1 c1 c2 mz).2 a b
    rw [tn_swap h m]; omega
  all_goals rw [id]
  · have := Int.mul_nonneg_of_nonpos_of_nonpos (Int.le_of_lt a) q
    have := Int.mul_nonpos_of_nonpos_of_nonneg p b
    omega
  · have := Int.mul_pos_of_neg_of_neg a q
    have := Int.mul_nonpos_of_nonpos_of_nonneg p b
    omega
  · have := Int.mul_nonneg_of_nonpos_of_nonpos (Int.le_of_lt a) q
    have := Int.mul_neg_of_neg_of_pos p r
    omega
/-- the corner next to h's direction is the one farthest out -/
theorem far_out {E : List H3} {h l f p q : H3} (c : Crn E (l, f)) (cp : Crn E (p, q)) (ml : l ∈ E) (mf : f ∈ E) (t1 : 0 ≤ tn l h) (t2 : 0 ≤ tn h f) (o : 0 < D p q h) : 0 < D l f h := by
  have e := id5 l f h p q
  have a1 := Int.mul_nonpos_of_nonneg_of_nonpos t2 (cp.le ml)
  have a2 := Int.mul_nonpos_of_nonneg_of_nonpos t1 (cp.le mf)
  have a3 := Int.mul_pos c.1 o
  simp only at a1 a2 a3
  exact pos_of cp.1 (by simp only; omega)
/-- a polygon that starts behind h's direction, cut by h -/
theorem cut_rot {h r0 : H3} {r' : List H3} {l : H3} {s' : List H3} (e : r0 :: r' = s' ++ [l]) (nd : (r0 :: r').Nodup) (c : ∀ p ∈ cyc (r0 :: r'), Crn (r0 :: r') p)
    (pw : (r0 :: r').Pairwise fun x y => tn h x < 0 → tn h y ≤ 0) (t1 : 0 ≤ tn l h) (t2 : 0 ≤ tn h r0) (out : ∃ p ∈ cyc (r0 :: r'), 0 < D p.1 p.2 h) (inn : ∃ p ∈ cyc (r0 :: r'), ng h p = true) :
    2 ≤ (keep h false (cyc (r0 :: r'))).length ∧ (∀ p ∈ cyc (h :: keep h false (cyc (r0 :: r'))), Crn (h :: keep h false (cyc (r0 :: r'))) p ∧ D p.1 p.2 h ≤ 0 ∧ ∀ g, (∀ q ∈ cyc (r0 :: r'), D q.1 q.2 g ≤ 0) → D p.1 p.2 g ≤ 0) ∧
    (∀ y ∈ keep h false (cyc (r0 :: r')), ∃ p ∈ cyc (r0 :: r'), D p.1 p.2 h < 0 ∧ (p.1 = y ∨ p.2 = y)) ∧ (0 < D l r0 h) := by
  have cy : cyc (r0 :: r') = prs (r0 :: r') r0 := rfl
  have cl : cyc (r0 :: r') = prs s' l ++ [(l, r0)] := by rw [cy, e, prs_append]; rfl
  have wm : (l, r0) ∈ cyc (r0 :: r') := by rw [cl]; simp
  have lm : l ∈ r0 :: r' := (cyc_mem wm).1
  have r0m : r0 ∈ r0 :: r' := by simp
  have wrap : 0 < D l r0 h := by
    obtain ⟨p, hp, k⟩ := out
    exact far_out (c _ wm) (c p hp) lm r0m t1 t2 k
  have wn : ng h (l, r0) = false := ng_f.2 (Int.le_of_lt wrap)
  have loc : Loc h false (prs (r0 :: r') r0) := by
    have := loc_of (h := h) (z := r0) c (r0 :: r') l (fun p hp => by
      simp only [prs, List.mem_cons, List.headD_cons] at hp
      rcases hp with rfl | hp
      · exact wm
      · rw [cy]; simp only [prs, List.mem_cons]; exact hp)
    simp only [List.headD_cons, wn] at this
    exact this
  have la : lastN h false (prs (r0 :: r') r0) = false := by
    rw [← cy, cl, lastN_append]; simp only [lastN, wn]
  obtain ⟨X, y, Y, m, Z, e1, e2, e3, e4, e5⟩ := keep_rot loc pw la (by rw [← cy]; exact inn)
  rw [← cy] at e2
  have K : keep h false (cyc (r0 :: r')) = y :: Y ++ [m] := e2
  have cy2 : cyc (r0 :: r') = prs X y ++ (prs (y :: Y) m ++ ((m, Z.headD r0) :: prs Z r0)) := by
    rw [cy, e1, List.append_assoc, prs_append, prs_append]; rfl
  have nd2 := nd
  rw [e1, List.append_assoc] at nd2
  have sub : ∀ x ∈ y :: Y ++ [m], x ∈ r0 :: r' := by
    intro x hx; rw [e1]; simp only [List.mem_append, List.mem_cons, List.not_mem_nil, or_false] at hx ⊢; grind
  have mid : ∀ p ∈ prs (y :: Y) m, p ∈ cyc (r0 :: r') := by
    intro p hp; rw [cy2]; simp only [List.mem_append]; exact Or.inr (Or.inl hp)
  have hm : (m, Z.headD r0) ∈ cyc (r0 :: r') := by rw [cy2]; simp
  -- the corner in front of y
  have hu : ∃ u, (u, y) ∈ cyc (r0 :: r') ∧ ng h (u, y) = false ∧ (u ∈ y :: Y ++ [m] → 0 < D u y h) := by
    rcases List.eq_nil_or_concat X with rfl | ⟨X', u, rfl⟩
    · have : y = r0 := by simp at e1; exact e1.1.symm
      subst this
      exact ⟨l, wm, wn, fun _ => wrap⟩
    · have hp : (u, y) ∈ prs (X'.concat u) y := by rw [List.concat_eq_append, prs_append]; simp [prs]
      refine ⟨u, by rw [cy2]; simp only [List.mem_append]; exact Or.inl hp, e5 _ hp, fun k => ?_⟩
      exfalso
      rw [List.nodup_append] at nd2
      refine nd2.2.2 u (by simp) u ?_ rfl
      simp only [List.mem_append, List.mem_cons, List.not_mem_nil, or_false] at k ⊢
      grind
  obtain ⟨u, hu1, hu2, hu3⟩ := hu
  have hz : Z.headD r0 ∈ y :: Y ++ [m] → 0 < D m (Z.headD r0) h := by
    intro k
    cases Z with
    | nil =>
      have el : (r0 :: r').getLast? = some m := by rw [e1, List.getLast?_append]; rfl
      have el2 : (r0 :: r').getLast? = some l := by rw [e, List.getLast?_append]; rfl
      have : l = m := by rw [el] at el2; exact (Option.some.inj el2).symm
      subst this
      simpa using wrap
    | cons z Z =>
      exfalso
      simp only [List.headD_cons] at k
      rw [List.nodup_append] at nd2
      have n3 := nd2.2.1
      rw [← List.singleton_append (l := z :: Z), ← List.append_assoc, List.nodup_append] at n3
      exact n3.2.2 z k z (by simp) rfl
  have yz : (y, Y.headD m) ∈ prs (y :: Y) m := by simp [prs]
  have ns := new_start (c _ hu1) (c _ (mid _ yz)) (cyc_mem (mid _ yz)).2 (ng_f.1 hu2) (ng_t.1 (e3 _ yz))
  have hx : ∃ x, (x, m) ∈ prs (y :: Y) m := by
    rcases List.eq_nil_or_concat (y :: Y) with k | ⟨Y', x, k⟩
    · cases k
    · exact ⟨x, by rw [k, List.concat_eq_append, prs_append]; simp [prs]⟩
  obtain ⟨x, hx⟩ := hx
  have ne := new_end (c _ (mid _ hx)) (c _ hm) (cyc_mem hm).2 (ng_t.1 (e3 _ hx)) (ng_f.1 e4)
  rw [K]
  have cN : cyc (h :: (y :: Y ++ [m])) = (h, y) :: (prs (y :: Y) m ++ [(m, h)]) := by
    show (h, y) :: prs (y :: Y ++ [m]) h = _
    rw [prs_append]; rfl
  refine ⟨by simp, ?_, ?_, wrap⟩
  · intro p hp
    rw [cN] at hp
    simp only [List.mem_cons, List.mem_append, List.not_mem_nil, or_false] at hp
    rcases hp with rfl | hp | rfl
    · refine ⟨⟨ns.1, ?_⟩, by rw [D_same1]; exact Int.le_refl _, fun g k => ns.2.1 g (k (u, y) hu1) (k (y, Y.headD m) (mid _ yz))⟩
      intro e' he n1 n2
      simp only at n1 n2 ⊢
      have ek : e' ∈ y :: Y ++ [m] := by
        simp only [List.mem_cons] at he
        rcases he with he | he
        · exact absurd he n1
        · simpa using he
      by_cases eu : e' = u
      · subst eu
        have nn := (c _ hu1).ne (c _ (mid _ yz))
        exact ns.2.2.2 e' ((c _ hu1).le (sub _ ek)) ((c _ (mid _ yz)).2 e' (sub _ ek) n2 (fun q => nn.1 q.symm)) (hu3 ek)
      · exact ns.2.2.1 e' ((c _ hu1).2 e' (sub _ ek) eu n2) ((c _ (mid _ yz)).le (sub _ ek))
    · have hin := (ng_p h p).1 (e3 p hp)
      refine ⟨⟨(c _ (mid _ hp)).1, ?_⟩, Int.le_of_lt hin, fun g k => k p (mid p hp)⟩
      intro e' he n1 n2
      simp only [List.mem_cons] at he
      rcases he with rfl | he
      · exact hin
      · exact (c _ (mid _ hp)).2 e' (sub _ (by simpa using he)) n1 n2
    · refine ⟨⟨ne.1, ?_⟩, by rw [D_same2]; exact Int.le_refl _, fun g k => ne.2.1 g (k (x, m) (mid _ hx)) (k (m, Z.headD r0) hm)⟩
      intro e' he n1 n2
      simp only at n1 n2 ⊢
      have ek : e' ∈ y :: Y ++ [m] := by
        simp only [List.mem_cons] at he
        rcases he with he | he
        · exact absurd he n2
        · simpa using he
      by_cases ez : e' = Z.headD r0
      · subst ez
        have nn := (c _ (mid _ hx)).ne (c _ hm)
        exact ne.2.2.2 _ ((c _ (mid _ hx)).2 _ (sub _ ek) nn.1 nn.2.1) ((c _ hm).le (sub _ ek)) (hz ek)
      · exact ne.2.2.1 e' ((c _ (mid _ hx)).le (sub _ ek)) ((c _ hm).2 e' (sub _ ek) n1 ez)
  · intro v hv
    rcases List.mem_append.1 hv with hv | hv
    · have : v ∈ (prs (y :: Y) m).map Prod.fst := by rw [prs_fst]; exact hv
      obtain ⟨p, hp, rfl⟩ := List.mem_map.1 this
      exact ⟨p, mid _ hp, (ng_p h p).1 (e3 _ hp), Or.inl rfl⟩
    · simp at hv
      subst hv
      exact ⟨(x, v), mid _ hx, ng_t.1 (e3 _ hx), Or.inr rfl⟩
/-- a convex polygon, given by its edges in order -/
def Poly (E : List H3) : Prop := 3 ≤ E.length ∧ (∀ e ∈ E, nz e) ∧ E.Pairwise (fun f g => bef f g = true) ∧ ∀ p ∈ cyc E, Crn E p
theorem nodup_of {E : List H3} (h : E.Pairwise (fun f g => bef f g = true)) : E.Nodup := by
  refine List.Pairwise.imp ?_ h
  rintro a b k rfl
  rw [bef_irr] at k; exact absurd k (by simp)
theorem Crn.perm {E F : List H3} {p : H3 × H3} (h : Crn E p) (k : ∀ e, e ∈ F → e ∈ E) : Crn F p := ⟨h.1, fun e m => h.2 e (k e m)⟩
theorem dropW {p : H3 → Bool} {E : List H3} : ∀ x l, E.dropWhile p = x :: l → p x = false := by
  induction E with
  | nil => intro x l h; simp at h
  | cons y E ih =>
    intro x l h
    rw [List.dropWhile_cons] at h
    split at h
    · exact ih x l h
    · rename_i k; cases h; simpa using k
theorem cut_at {E : List H3} (nzE : ∀ e ∈ E, nz e) (pw : E.Pairwise (fun f g => bef f g = true)) {h : H3} (nh : nz h) :
    ∃ A B, E = A ++ B ∧ (∀ a ∈ A, bef h a = false) ∧ (∀ b ∈ B, bef h b = true) := by
  refine ⟨E.takeWhile (fun x => !bef h x), E.dropWhile (fun x => !bef h x), List.takeWhile_append_dropWhile.symm, ?_, ?_⟩
  · intro a ha
    have := List.all_takeWhile (l := E) (p := fun x => !bef h x)
    rw [List.all_eq_true] at this
    simpa using this a ha
  · intro b hb
    have sub : (E.dropWhile (fun x => !bef h x)).Sublist E := List.dropWhile_sublist _
    cases e : E.dropWhile (fun x => !bef h x) with
    | nil => rw [e] at hb; simp at hb
    | cons x l =>
      have hx := dropW x l e
      simp at hx
      rw [e] at hb sub
      simp only [List.mem_cons] at hb
      rcases hb with rfl | hb
      · exact hx
      · have p2 := pw.sublist sub
        rw [List.pairwise_cons] at p2
        exact bef_trans nh (nzE _ (sub.subset (by simp))) (nzE _ (sub.subset (by simp [hb]))) hx (p2.1 b hb)
/-- the edges, started behind h's direction -/
theorem rot_of {E : List H3} (P : Poly E) {h : H3} (nh : nz h) : ∃ A B, E = A ++ B ∧ (∀ a ∈ A, bef h a = false) ∧ (∀ b ∈ B, bef h b = true) ∧
    ∃ r0 r' s' l, B ++ A = r0 :: r' ∧ B ++ A = s' ++ [l] ∧ (l, r0) ∈ cyc E ∧ 0 ≤ tn l h ∧ 0 ≤ tn h r0 ∧ (B ++ A).Pairwise (fun x y => tn h x < 0 → tn h y ≤ 0) := by
  obtain ⟨len, nzE, pw, crn⟩ := P
  obtain ⟨A, B, rfl, hA, hB⟩ := cut_at nzE pw nh
  refine ⟨A, B, rfl, hA, hB, ?_⟩
  have nzA : ∀ a ∈ A, nz a := fun a k => nzE a (by simp [k])
  have nzB : ∀ a ∈ B, nz a := fun a k => nzE a (by simp [k])
  rw [List.pairwise_append] at pw
  have past : (B ++ A).Pairwise (fun x y => tn h x < 0 → tn h y ≤ 0) := by
    rw [List.pairwise_append]
    refine ⟨?_, ?_, ?_⟩
    · exact pw.2.1.imp_of_mem fun {x y} hx hy k => past_bb nh (nzB _ hx) (nzB _ hy) (hB _ hx) (hB _ hy) k
    · exact pw.1.imp_of_mem fun {x y} hx hy k => past_aa nh (nzA _ hx) (nzA _ hy) (hA _ hx) (hA _ hy) k
    · exact fun x hx y hy => past_ba nh (nzB _ hx) (nzA _ hy) (hB _ hx) (hA _ hy)
  cases e1 : B ++ A with
  | nil =>
    simp only [List.append_eq_nil_iff] at e1
    rw [e1.1, e1.2] at len
    simp at len
  | cons r0 r' =>
    rcases List.eq_nil_or_concat (B ++ A) with e2 | ⟨s', l, e2⟩
    · rw [e1] at e2; cases e2
    rw [List.concat_eq_append] at e2
    have wm : (l, r0) ∈ cyc (A ++ B) := by
      rw [cyc_turn, e2]
      unfold cyc
      have : (s' ++ [l]).headD ⟨0, 0, 0⟩ = r0 := by rw [← e2, e1]; rfl
      rw [this, prs_append]
      simp [prs]
    have t := (crn _ wm).1
    simp only at t
    rw [e1] at e2 past
    refine ⟨r0, r', s', l, rfl, e2, wm, ?_⟩
    rw [← and_assoc]
    refine ⟨?_, past⟩
    have nl : l ∈ A ++ B := (cyc_mem wm).1
    have nr : r0 ∈ A ++ B := (cyc_mem wm).2
    have el : (B ++ A).getLast? = some l := by rw [e1, e2, List.getLast?_append]; rfl
    have eh : (B ++ A).head? = some r0 := by rw [e1]; rfl
    rw [List.getLast?_append] at el
    rw [List.head?_append] at eh
    rcases List.eq_nil_or_concat A with rfl | ⟨A', a, ea⟩
    · -- all behind h
      simp only [List.getLast?_nil, Option.none_or, List.head?_nil, Option.or_none, List.nil_append] at el eh nl nr
      refine betw_bb nh (nzB _ nl) (nzB _ nr) (hB _ nl) (hB _ nr) ?_ t
      cases B with
      | nil => simp at eh
      | cons b B =>
        simp at eh; subst eh
        have hp := pw.2.1
        rw [List.pairwise_cons] at hp
        refine hp.1 l ?_
        cases B with
        | nil => simp at len
        | cons c B => simp at el; exact List.mem_of_getLast? (by simpa using el)
    · rw [List.concat_eq_append] at ea
      have ea2 : A.getLast? = some a := by rw [ea, List.getLast?_append]; rfl
      rw [ea2] at el
      simp only [Option.some_or, Option.some.injEq] at el
      subst el
      have ha : a ∈ A := by rw [ea]; simp
      cases B with
      | nil =>
        simp only [List.head?_nil, Option.none_or, List.append_nil] at eh nr len
        refine betw_aa nh (nzA _ ha) (nzA _ nr) (hA _ ha) (hA _ nr) ?_ t
        cases A with
        | nil => simp at eh
        | cons c A =>
          simp at eh; subst eh
          have hp := pw.1
          rw [List.pairwise_cons] at hp
          refine hp.1 a ?_
          cases A with
          | nil => simp at len
          | cons d A => simp at ea2; exact List.mem_of_getLast? (by simpa using ea2)
      | cons b B =>
        simp at eh; subst eh
        exact betw_ab nh (nzA _ ha) (nzB _ (by simp)) (hA _ ha) (hB _ (by simp)) t
/-- h put in its place -/
def ins (K : List H3) (h : H3) : List H3 := K.takeWhile (fun x => !bef h x) ++ h :: K.dropWhile (fun x => !bef h x)
theorem ins_split {KA KB : List H3} {h : H3} (a : ∀ x ∈ KA, bef h x = false) (b : ∀ x ∈ KB, bef h x = true) : ins (KA ++ KB) h = KA ++ h :: KB := by
  unfold ins
  have t : KB.takeWhile (fun x => !bef h x) = [] := by
    cases KB with
    | nil => rfl
    | cons x l => rw [List.takeWhile_cons]; simp [b x (by simp)]
  have d : KB.dropWhile (fun x => !bef h x) = KB := by
    cases KB with
    | nil => rfl
    | cons x l => rw [List.dropWhile_cons]; simp [b x (by simp)]
  rw [List.takeWhile_append_of_pos (by intro x hx; simp [a x hx]), List.dropWhile_append_of_pos (by intro x hx; simp [a x hx]), t, d, List.append_nil]
def kept (E : List H3) (h : H3) : List H3 := keep h (lastN h false (cyc E)) (cyc E)
theorem cut_poly {E : List H3} (P : Poly E) {h : H3} (nh : nz h) (out : ∃ p ∈ cyc E, 0 < D p.1 p.2 h) (inn : ∃ p ∈ cyc E, D p.1 p.2 h < 0) :
    Poly (ins (kept E h) h) ∧ (∀ x ∈ ins (kept E h) h, x = h ∨ x ∈ E) ∧ ∀ p ∈ cyc (ins (kept E h) h), D p.1 p.2 h ≤ 0 ∧ ∀ g, (∀ q ∈ cyc E, D q.1 q.2 g ≤ 0) → D p.1 p.2 g ≤ 0 := by
  obtain ⟨A, B, eE, hA, hB, r0, r', s', l, e1, e2, wm, t1, t2, past⟩ := rot_of P nh
  obtain ⟨len, nzE, pw, crn⟩ := P
  subst eE
  have nd : (B ++ A).Nodup := by
    have := nodup_of pw
    rw [List.nodup_append] at this ⊢
    exact ⟨this.2.1, this.1, fun x hx y hy k => this.2.2 y hy x hx k.symm⟩
  have cm : ∀ p, p ∈ cyc (B ++ A) ↔ p ∈ cyc (A ++ B) := fun p => cyc_turn B A p
  have crn2 : ∀ p ∈ cyc (B ++ A), Crn (B ++ A) p := fun p hp => (crn p ((cm p).1 hp)).perm fun e k => by
    simp only [List.mem_append] at k ⊢; exact k.symm
  have main := cut_rot (h := h) (l := l) (s' := s') (r0 := r0) (r' := r') (by rw [← e1, e2]) (by rw [← e1]; exact nd) (by rw [← e1]; exact crn2) (by rw [← e1]; exact past) t1 t2
    (by rw [← e1]; obtain ⟨p, hp, k⟩ := out; exact ⟨p, (cm p).2 hp, k⟩) (by rw [← e1]; obtain ⟨p, hp, k⟩ := inn; exact ⟨p, (cm p).2 hp, (ng_p h p).2 k⟩)
  rw [← e1] at main
  obtain ⟨m1, m2, m3, m4⟩ := main
  have wn : ng h (l, r0) = false := ng_f.2 (Int.le_of_lt m4)
  have spl : ∃ KA KB, kept (A ++ B) h = KA ++ KB ∧ keep h false (cyc (B ++ A)) = KB ++ KA ∧ KA.Sublist A ∧ KB.Sublist B := by
    have cR : cyc (B ++ A) = prs s' l ++ [(l, r0)] := by
      unfold cyc
      have : (B ++ A).headD ⟨0, 0, 0⟩ = r0 := by rw [e1]; rfl
      rw [this, e2, prs_append]; rfl
    have lR : lastN h false (cyc (B ++ A)) = false := by rw [cR, lastN_append]; simp only [lastN, wn]
    unfold kept
    cases A with
    | nil =>
      refine ⟨[], keep h false (cyc B), ?_, by simp, by simp, ?_⟩
      · simp only [List.append_nil] at lR
        simp [lR]
      · have := keep_sub h false (cyc B)
        unfold cyc at this ⊢
        rwa [prs_fst] at this
    | cons a A =>
      cases B with
      | nil =>
        refine ⟨keep h false (cyc (a :: A)), [], ?_, by simp, ?_, by simp⟩
        · simp only [List.nil_append] at lR
          simp [lR]
        · have := keep_sub h false (cyc (a :: A))
          unfold cyc at this ⊢
          rwa [prs_fst] at this
      | cons b B =>
        have c1 : cyc (a :: A ++ b :: B) = prs (a :: A) b ++ prs (b :: B) a := by unfold cyc; rw [prs_append]; rfl
        have c2 : cyc (b :: B ++ a :: A) = prs (b :: B) a ++ prs (a :: A) b := by unfold cyc; rw [prs_append]; rfl
        rw [c1, c2]
        rw [c2, lastN_append] at lR
        have n1 : prs (a :: A) b ≠ [] := by simp [prs]
        have n2 : prs (b :: B) a ≠ [] := by simp [prs]
        refine ⟨keep h (lastN h false (prs (b :: B) a)) (prs (a :: A) b), keep h false (prs (b :: B) a), ?_, ?_, ?_, ?_⟩
        · rw [lastN_append, keep_append, lastN_cons h (lastN h false (prs (a :: A) b)) false _ n2, lR]
        · rw [keep_append]
        · have := keep_sub h (lastN h false (prs (b :: B) a)) (prs (a :: A) b); rwa [prs_fst] at this
        · have := keep_sub h false (prs (b :: B) a); rwa [prs_fst] at this
  obtain ⟨KA, KB, k1, k2, sA, sB⟩ := spl
  rw [k2] at m1 m2 m3
  have eN : ins (kept (A ++ B) h) h = KA ++ h :: KB := by
    rw [k1]; exact ins_split (fun x hx => hA x (sA.subset hx)) (fun x hx => hB x (sB.subset hx))
  rw [eN]
  have cN : ∀ p, p ∈ cyc (KA ++ h :: KB) ↔ p ∈ cyc (h :: (KB ++ KA)) := fun p => cyc_turn KA (h :: KB) p
  have mN : ∀ x, x ∈ KA ++ h :: KB ↔ x ∈ h :: (KB ++ KA) := fun x => by simp only [List.mem_append, List.mem_cons]; grind
  have subE : ∀ x ∈ KA ++ h :: KB, x = h ∨ x ∈ A ++ B := by
    intro x hx
    simp only [List.mem_append, List.mem_cons] at hx ⊢
    rcases hx with hx | rfl | hx
    · exact Or.inr (Or.inl (sA.subset hx))
    · exact Or.inl rfl
    · exact Or.inr (Or.inr (sB.subset hx))
  refine ⟨⟨?_, ?_, ?_, ?_⟩, subE, ?_⟩
  · simp only [List.length_append, List.length_cons] at m1 ⊢; omega
  · intro x hx
    rcases subE x hx with rfl | k
    · exact nh
    · exact nzE x k
  · rw [List.pairwise_append] at pw
    rw [List.pairwise_append, List.pairwise_cons]
    refine ⟨pw.1.sublist sA, ⟨fun b hb => hB b (sB.subset hb), pw.2.1.sublist sB⟩, ?_⟩
    intro a ha x hx
    simp only [List.mem_cons] at hx
    rcases hx with rfl | hx
    · rcases bef_tri a x with k | k | k
      · exact k
      · rw [hA a (sA.subset ha)] at k; cases k
      · exfalso
        have na : nz a := nzE a (by simp [sA.subset ha])
        obtain ⟨o, ho, ko⟩ := out
        obtain ⟨⟨p, q⟩, hp, d, w⟩ := m3 a (by simp [ha])
        simp only at d w
        have hp' := (cm _).1 hp
        have np : nz p := nzE p (cyc_mem hp').1
        have nq : nz q := nzE q (cyc_mem hp').2
        have cp := crn _ hp'
        have tp := cp.1
        simp only at tp
        have co : Crn (A ++ B) (o.1, o.2) := crn o ho
        rcases w with rfl | rfl
        · have s := sd_turn na nh nq k
          have := far_out cp co (cyc_mem hp').1 (cyc_mem hp').2 (by rw [s.1]; exact Int.le_refl _) (Int.le_of_lt (s.2.1 tp)) ko
          omega
        · have s := sd_turn na nh np k
          have := far_out cp co (cyc_mem hp').1 (cyc_mem hp').2 (Int.le_of_lt (s.2.2 tp)) (by rw [tn_swap, s.1]; exact Int.le_refl _) ko
          omega
    · exact pw.2.2 a (sA.subset ha) x (sB.subset hx)
  · intro p hp
    exact (m2 p ((cN p).1 hp)).1.perm fun e k => (mN e).1 k
  · intro p hp
    have := (m2 p ((cN p).1 hp)).2
    exact ⟨this.1, fun g k => this.2 g fun q hq => k q ((cm q).1 hq)⟩
def frame : List H3 := [⟨1, 0, 1000⟩, ⟨0, 1, 1000⟩, ⟨-1, 0, 1000⟩, ⟨0, -1, 1000⟩]
theorem frame_poly : Poly frame := by
  refine ⟨by decide, ?_, by decide, ?_⟩
  · intro e h; simp only [frame, List.mem_cons, List.not_mem_nil, or_false] at h
    rcases h with rfl | rfl | rfl | rfl <;> simp [nz]
  · intro p h
    simp only [cyc, frame, prs, List.headD_cons, List.headD_nil, List.mem_cons, List.not_mem_nil, or_false] at h
    unfold Crn
    rcases h with rfl | rfl | rfl | rfl <;> decide
/-- all points lie on one line -/
def Flat (H : List H3) : Prop := ∃ h, nz h ∧ ∀ X Y W : Int, 0 < W → (∀ g ∈ H, val g X Y W ≤ 0) → val h X Y W = 0
theorem Flat.mono {H H' : List H3} (f : Flat H) (s : ∀ g ∈ H, g ∈ H') : Flat H' := by
  obtain ⟨h, n, k⟩ := f
  exact ⟨h, n, fun X Y W w a => k X Y W w fun g hg => a g (s g hg)⟩
def op (h : H3) : H3 := ⟨-h.a, -h.b, -h.c⟩
theorem op_nz {h : H3} (n : nz h) : nz (op h) := by unfold nz op at *; simp; omega
theorem D_op (f g h : H3) : D f g (op h) = -D f g h := by unfold D op; grind
theorem val_op (h : H3) (X Y W : Int) : val (op h) X Y W = -val h X Y W := by unfold val op; grind
/-- no point of a polygon lies farther in a direction than the corner next to it -/
theorem support {E : List H3} (P : Poly E) {h : H3} (nh : nz h) : ∃ f g, (f, g) ∈ cyc E ∧ 0 ≤ tn f h ∧ 0 ≤ tn h g ∧
    ∀ X Y W : Int, 0 < W → (∀ e ∈ E, val e X Y W ≤ 0) → tn f g * val h X Y W ≤ W * D f g h := by
  obtain ⟨A, B, eE, hA, hB, r0, r', s', l, e1, e2, wm, t1, t2, past⟩ := rot_of P nh
  refine ⟨l, r0, wm, t1, t2, fun X Y W w k => ?_⟩
  rw [id4]
  have := Int.mul_nonpos_of_nonneg_of_nonpos t2 (k l (cyc_mem wm).1)
  have := Int.mul_nonpos_of_nonneg_of_nonpos t1 (k r0 (cyc_mem wm).2)
  omega
theorem flat_of {E H : List H3} (P : Poly E) {h : H3} (nh : nz h) (sub : ∀ e ∈ E, e ∈ H) (hh : h ∈ H) (k : ∀ p ∈ cyc E, 0 ≤ D p.1 p.2 h) : Flat H := by
  refine ⟨h, nh, fun X Y W w a => ?_⟩
  obtain ⟨f, g, m, _, _, s⟩ := support P (op_nz nh)
  have := s X Y W w fun e he => a e (sub e he)
  rw [D_op, val_op] at this
  have d := k _ m
  simp only at d
  have p1 := Int.mul_nonneg (Int.le_of_lt w) d
  rw [Int.mul_neg, Int.mul_neg] at this
  have t := (P.2.2.2 _ m).1
  simp only at t
  have := nonneg_of t (by omega : 0 ≤ tn f g * val h X Y W)
  have := a h hh
  omega
/-- a polygon contains all that its corners' half planes contain -/
theorem inside_of {E : List H3} (P : Poly E) {h : H3} (nh : nz h) (k : ∀ p ∈ cyc E, D p.1 p.2 h ≤ 0) {X Y W : Int} (w : 0 < W) (a : ∀ e ∈ E, val e X Y W ≤ 0) : val h X Y W ≤ 0 := by
  obtain ⟨f, g, m, _, _, s⟩ := support P nh
  have := s X Y W w a
  have d := k _ m
  simp only at d
  have := Int.mul_nonpos_of_nonneg_of_nonpos (Int.le_of_lt w) d
  exact nonpos_of_pos (P.2.2.2 _ m).1 (by simp only; omega)
/-- the edges of a polygon cut by a half plane -/
def cutL (E : List H3) (h : H3) : List H3 :=
  if (cyc E).any (fun p => decide (0 < D p.1 p.2 h)) then (if (cyc E).any (ng h) then ins (kept E h) h else []) else E
/-- what the edges found so far are of the half planes H -/
def Inv (E H : List H3) : Prop := (Poly E ∧ (∀ x ∈ E, x ∈ H) ∧ ∀ p ∈ cyc E, ∀ g ∈ H, D p.1 p.2 g ≤ 0) ∨ (E = [] ∧ Flat H)
theorem inv_cut {E H : List H3} (i : Inv E H) {h : H3} (nh : nz h) : Inv (cutL E h) (H ++ [h]) := by
  have sub : ∀ g ∈ H, g ∈ H ++ [h] := fun g k => by simp [k]
  rcases i with ⟨P, s, c⟩ | ⟨rfl, f⟩
  · unfold cutL
    split
    · rename_i o
      rw [List.any_eq_true] at o
      obtain ⟨p, hp, kp⟩ := o
      split
      · rename_i i
        rw [List.any_eq_true] at i
        obtain ⟨q, hq, kq⟩ := i
        obtain ⟨P2, s2, c2⟩ := cut_poly P nh ⟨p, hp, by simpa using kp⟩ ⟨q, hq, (ng_p h q).1 kq⟩
        refine Or.inl ⟨P2, ?_, ?_⟩
        · intro x hx
          rcases s2 x hx with rfl | k
          · simp
          · exact sub x (s x k)
        · intro p hp g hg
          simp only [List.mem_append, List.mem_singleton] at hg
          rcases hg with hg | rfl
          · exact (c2 p hp).2 g fun q hq => c q hq g hg
          · exact (c2 p hp).1
      · rename_i i
        refine Or.inr ⟨rfl, flat_of P nh (fun e he => sub e (s e he)) (by simp) ?_⟩
        intro p hp
        have : ¬ ng h p = true := fun k => i (by rw [List.any_eq_true]; exact ⟨p, hp, k⟩)
        rw [ng_p] at this
        omega
    · rename_i o
      refine Or.inl ⟨P, fun x hx => sub x (s x hx), ?_⟩
      intro p hp g hg
      simp only [List.mem_append, List.mem_singleton] at hg
      rcases hg with hg | rfl
      · exact c p hp g hg
      · have : ¬ decide (0 < D p.1 p.2 g) = true := fun k => o (by rw [List.any_eq_true]; exact ⟨p, hp, k⟩)
        simp at this
        omega
  · exact Or.inr ⟨by simp [cutL, cyc, prs], f.mono sub⟩
theorem inv_fold {E H : List H3} (i : Inv E H) (hs : List H3) (n : ∀ h ∈ hs, nz h) : Inv (hs.foldl cutL E) (H ++ hs) := by
  induction hs generalizing E H with
  | nil => simpa using i
  | cons h hs ih =>
    have := ih (inv_cut i (n h (by simp))) fun x hx => n x (by simp [hx])
    simpa using this
theorem inv_frame : Inv frame frame := by
  refine Or.inl ⟨frame_poly, fun _ h => h, ?_⟩
  intro p hp g hg
  exact (frame_poly.2.2.2 p hp).le hg
theorem cut_len (E : List H3) (h : H3) : (cutL E h).length ≤ E.length + 1 := by
  unfold cutL
  split
  · split
    · have : (ins (kept E h) h).length = (kept E h).length + 1 := by
        unfold ins
        have := congrArg List.length (List.takeWhile_append_dropWhile (p := fun x => !bef h x) (l := kept E h))
        simp only [List.length_append, List.length_cons] at this ⊢; omega
      rw [this]
      have := (keep_sub h (lastN h false (cyc E)) (cyc E)).length_le
      unfold cyc at this
      rw [prs_fst] at this
      unfold kept cyc; omega
    · simp
  · omega
theorem fold_len (E hs : List H3) : (hs.foldl cutL E).length ≤ E.length + hs.length := by
  induction hs generalizing E with
  | nil => simp
  | cons h hs ih =>
    have := ih (cutL E h)
    have := cut_len E h
    simp only [List.foldl_cons, List.length_cons]; omega
theorem cut_mem {E : List H3} {h x : H3} (m : x ∈ cutL E h) : x = h ∨ x ∈ E := by
  unfold cutL at m
  split at m
  · split at m
    · unfold ins at m
      simp only [List.mem_append, List.mem_cons] at m
      have sub : ∀ y ∈ kept E h, y ∈ E := by
        intro y hy
        have := (keep_sub h (lastN h false (cyc E)) (cyc E)).subset hy
        unfold cyc at this
        rwa [prs_fst] at this
      rcases m with m | m | m
      · exact Or.inr (sub x ((List.takeWhile_sublist _).subset m))
      · exact Or.inl m
      · exact Or.inr (sub x ((List.dropWhile_sublist _).subset m))
    · simp at m
  · exact Or.inr m
-- the model
def len (h : H3) : Int := (h.a.natAbs : Int) + (h.b.natAbs : Int)
def tig (x h : H3) : H3 := if h.c * len x < x.c * len h then h else x
def insS : List H3 → H3 → List H3
  | [], h => [h]
  | x :: l, h => if bef x h then x :: insS l h else if sd x h then tig x h :: l else h :: x :: l
def srt (hs : List H3) : List H3 := hs.foldl insS []
def gc (h : H3) : Nat := Int.gcd (Int.gcd h.a h.b) h.c
theorem len_pos {h : H3} (n : nz h) : 0 < len h := by unfold nz at n; unfold len; omega
theorem up_t {h : H3} (k : up h = true) : 0 < h.b ∨ h.b = 0 ∧ 0 < h.a := by unfold up at k; simpa using k
theorem up_f {h : H3} (n : nz h) (k : up h = false) : h.b < 0 ∨ h.b = 0 ∧ h.a < 0 := by unfold up at k; unfold nz at n; simp at k; omega
theorem abs_mul {a b : Int} (h : 0 ≤ a ∧ 0 ≤ b ∨ a ≤ 0 ∧ b ≤ 0) : (a.natAbs : Int) * b = (b.natAbs : Int) * a := by
  rcases h with ⟨h, k⟩ | ⟨h, k⟩
  · rw [Int.natAbs_of_nonneg h, Int.natAbs_of_nonneg k, Int.mul_comm]
  · rw [Int.ofNat_natAbs_of_nonpos h, Int.ofNat_natAbs_of_nonpos k, Int.neg_mul, Int.neg_mul, Int.mul_comm]
theorem abs_cross {a b u v : Int} (h : 0 ≤ a ∧ 0 ≤ b ∨ a ≤ 0 ∧ b ≤ 0) (e : a * u = b * v) : (a.natAbs : Int) * u = (b.natAbs : Int) * v := by
  rcases h with ⟨h, k⟩ | ⟨h, k⟩
  · rw [Int.natAbs_of_nonneg h, Int.natAbs_of_nonneg k, e]
  · rw [Int.ofNat_natAbs_of_nonpos h, Int.ofNat_natAbs_of_nonpos k, Int.neg_mul, Int.neg_mul, e]
theorem sgn_same {p q a b : Int} (hp : 0 < p) (hq : 0 < q) (e : p * a = q * b) : 0 ≤ a ∧ 0 ≤ b ∨ a ≤ 0 ∧ b ≤ 0 := by
  rcases Int.lt_or_le a 0 with h | h
  · have := Int.mul_neg_of_pos_of_neg hp h
    rcases Int.lt_or_le b 0 with k | k
    · omega
    · have := Int.mul_nonneg (Int.le_of_lt hq) k; omega
  · have := Int.mul_nonneg (Int.le_of_lt hp) h
    rcases Int.lt_or_le b 0 with k | k
    · have := Int.mul_neg_of_pos_of_neg hq k; omega
    · omega
/-- the same direction: one is a multiple of the other -/
theorem sd_len {x h : H3} (nx : nz x) (nh : nz h) (k : sd x h = true) : len x * h.a = len h * x.a ∧ len x * h.b = len h * x.b := by
  unfold sd at k
  simp only [Bool.and_eq_true, decide_eq_true_eq, beq_iff_eq] at k
  obtain ⟨t, u⟩ := k
  have key : (0 ≤ x.a ∧ 0 ≤ h.a ∨ x.a ≤ 0 ∧ h.a ≤ 0) ∧ (0 ≤ x.b ∧ 0 ≤ h.b ∨ x.b ≤ 0 ∧ h.b ≤ 0) := by
    cases e : up x with
    | true =>
      have h1 := up_t e
      rw [e] at u
      have h2 := up_t u.symm
      refine ⟨?_, by omega⟩
      rcases h1 with h1 | ⟨h1, h1'⟩
      · rcases h2 with h2 | ⟨h2, h2'⟩
        · exact sgn_same h2 h1 (by grind)
        · rw [h2] at t
          have := Int.mul_pos h1 h2'; omega
      · rcases h2 with h2 | ⟨h2, h2'⟩
        · rw [h1] at t
          have := Int.mul_pos h1' h2; omega
        · omega
    | false =>
      have h1 := up_f nx e
      rw [e] at u
      have h2 := up_f nh u.symm
      refine ⟨?_, by omega⟩
      rcases h1 with h1 | ⟨h1, h1'⟩
      · rcases h2 with h2 | ⟨h2, h2'⟩
        · exact sgn_same (p := -h.b) (q := -x.b) (by omega) (by omega) (by grind)
        · rw [h2] at t
          have := Int.mul_pos_of_neg_of_neg h1 h2'; omega
      · rcases h2 with h2 | ⟨h2, h2'⟩
        · rw [h1] at t
          have := Int.mul_pos_of_neg_of_neg h1' h2; omega
        · omega
  have ea := abs_mul key.1
  have eb := abs_mul key.2
  have ca := abs_cross (u := h.b) (v := x.b) key.1 (by grind)
  have cb := abs_cross (u := h.a) (v := x.a) key.2 (by grind)
  unfold len
  generalize (x.a.natAbs : Int) = xa at *
  generalize (x.b.natAbs : Int) = xb at *
  generalize (h.a.natAbs : Int) = ya at *
  generalize (h.b.natAbs : Int) = yb at *
  refine ⟨?_, ?_⟩
  · grind
  · grind
/-- what the tighter one contains -/
theorem tight_val {x h : H3} (nx : nz x) (nh : nz h) (k : sd x h = true) (t : x.c * len h ≤ h.c * len x) {X Y W : Int} (w : 0 ≤ W) (v : val x X Y W ≤ 0) : val h X Y W ≤ 0 := by
  have e := sd_len nx nh k
  have px := len_pos nx
  have ph := len_pos nh
  have id : len x * val h X Y W = len h * val x X Y W + W * (x.c * len h - h.c * len x) := by
    unfold val; grind
  have := Int.mul_nonpos_of_nonneg_of_nonpos (Int.le_of_lt ph) v
  have := Int.mul_nonpos_of_nonneg_of_nonpos w (by omega : x.c * len h - h.c * len x ≤ 0)
  exact nonpos_of_pos px (by omega)
theorem gc_mul (p : Int) (h : H3) (hp : 0 < p) (k : gc h = 1) : (Int.gcd (Int.gcd (p * h.a) (p * h.b)) (p * h.c) : Int) = p := by
  unfold gc at k
  rw [Int.gcd_mul_left]
  have : ((p.natAbs * Int.gcd h.a h.b : Nat) : Int) = p * (Int.gcd h.a h.b : Int) := by
    rw [Int.natCast_mul, Int.natAbs_of_nonneg (Int.le_of_lt hp)]
  rw [this, Int.gcd_mul_left, k, Nat.mul_one, Int.natAbs_of_nonneg (Int.le_of_lt hp)]
/-- two half planes in lowest terms with the same direction and the same border are equal -/
theorem same_eq {x h : H3} (nx : nz x) (nh : nz h) (k : sd x h = true) (t : x.c * len h = h.c * len x) (gx : gc x = 1) (gh : gc h = 1) : x = h := by
  have e := sd_len nx nh k
  have px := len_pos nx
  have ph := len_pos nh
  have a := gc_mul (len x) h px gh
  have b := gc_mul (len h) x ph gx
  have c : len x * h.c = len h * x.c := by rw [Int.mul_comm, ← t, Int.mul_comm]
  rw [e.1, e.2, c, b] at a
  rw [← a] at e c
  have ha := Int.eq_of_mul_eq_mul_left (by omega) e.1
  have hb := Int.eq_of_mul_eq_mul_left (by omega) e.2
  have hc := Int.eq_of_mul_eq_mul_left (by omega) c
  cases x; cases h; simp only at ha hb hc; subst ha hb hc; rfl
theorem sd_refl (x : H3) : sd x x = true := by unfold sd; simp; grind
theorem sd_symm {x h : H3} (k : sd x h = true) : sd h x = true := by
  rw [sd_ft] at *; rw [ft_swap x h]; simp only [Bool.and_eq_true, decide_eq_true_eq, beq_iff_eq] at k ⊢
  exact ⟨by omega, k.2.symm⟩
theorem sd_trans {x y z : H3} (nx : nz x) (ny : nz y) (nzz : nz z) (k : sd x y = true) (l : sd y z = true) : sd x z = true := by
  have := three_ft nx ny nzz
  rw [sd_ft] at *
  simp only [Bool.and_eq_true, decide_eq_true_eq, beq_iff_eq] at k l ⊢
  exact ⟨by omega, k.2.trans l.2⟩
theorem bef_sd {x y z : H3} (nx : nz x) (ny : nz y) (nzz : nz z) (k : bef x y = true) (l : sd y z = true) : bef x z = true := by
  have := three_ft nx ny nzz
  rw [sd_ft] at l
  rw [bef_ft] at *
  simp only [Bool.and_eq_true, decide_eq_true_eq, beq_iff_eq] at l
  rw [← l.2]
  cases e1 : up x <;> cases e2 : up y <;> simp [e1, e2] at k ⊢ <;> omega
theorem sd_bef {x y z : H3} (nx : nz x) (ny : nz y) (nzz : nz z) (k : sd x y = true) (l : bef y z = true) : bef x z = true := by
  have := three_ft nx ny nzz
  rw [sd_ft] at k
  rw [bef_ft] at *
  simp only [Bool.and_eq_true, decide_eq_true_eq, beq_iff_eq] at k
  rw [k.2]
  cases e1 : up y <;> cases e2 : up z <;> simp [e1, e2] at l ⊢ <;> omega
theorem sd_nbef {x y : H3} (k : sd x y = true) : bef x y = false := by
  rw [sd_ft] at k
  rw [bef_ft]
  simp only [Bool.and_eq_true, decide_eq_true_eq, beq_iff_eq] at k
  rw [if_pos k.2]; simp; omega
theorem tig_or (x h : H3) : tig x h = h ∨ tig x h = x := by unfold tig; split <;> simp
theorem tig_nz {x h : H3} (nx : nz x) (nh : nz h) : nz (tig x h) := by rcases tig_or x h with e | e <;> rw [e] <;> assumption
theorem tig_sd {x h : H3} (k : sd x h = true) : sd (tig x h) x = true ∧ sd (tig x h) h = true := by
  rcases tig_or x h with e | e <;> rw [e]
  · exact ⟨sd_symm k, sd_refl _⟩
  · exact ⟨sd_refl _, k⟩
/-- the tighter of two with the same direction has the lesser border -/
theorem tig_le (x h : H3) : (tig x h).c * len x ≤ x.c * len (tig x h) ∧ (tig x h).c * len h ≤ h.c * len (tig x h) := by
  unfold tig; split
  · exact ⟨by omega, Int.le_refl _⟩
  · exact ⟨Int.le_refl _, by omega⟩
theorem tight_trans {x y z : H3} (nx : nz x) (ny : nz y) (nzz : nz z) (a : x.c * len y ≤ y.c * len x) (b : y.c * len z ≤ z.c * len y) : x.c * len z ≤ z.c * len x := by
  have px := len_pos nx
  have py := len_pos ny
  have pz := len_pos nzz
  have h1 := Int.mul_le_mul_of_nonneg_right a (Int.le_of_lt pz)
  have h2 := Int.mul_le_mul_of_nonneg_right b (Int.le_of_lt px)
  have : len y * (x.c * len z) ≤ len y * (z.c * len x) := by grind
  exact Int.le_of_mul_le_mul_left this py
/-- a list as the model sorts it -/
def Srt (H L : List H3) : Prop := L.Pairwise (fun f g => bef f g = true) ∧ (∀ x ∈ L, x ∈ H) ∧ ∀ h ∈ H, ∃ x ∈ L, sd x h = true ∧ x.c * len h ≤ h.c * len x
theorem insS_mem {L : List H3} {h x : H3} (m : x ∈ insS L h) : x = h ∨ x ∈ L := by
  induction L with
  | nil => simp [insS] at m; exact Or.inl m
  | cons y L ih =>
    unfold insS at m
    split at m
    · simp only [List.mem_cons] at m ⊢
      rcases m with m | m
      · exact Or.inr (Or.inl m)
      · rcases ih m with k | k
        · exact Or.inl k
        · exact Or.inr (Or.inr k)
    · split at m
      · simp only [List.mem_cons] at m ⊢
        rcases m with m | m
        · rcases tig_or y h with e | e
          · exact Or.inl (m.trans e)
          · exact Or.inr (Or.inl (m.trans e))
        · exact Or.inr (Or.inr m)
      · simpa using m
theorem insS_pw {L : List H3} {h : H3} (nL : ∀ x ∈ L, nz x) (nh : nz h) (pw : L.Pairwise (fun f g => bef f g = true)) : (insS L h).Pairwise (fun f g => bef f g = true) := by
  induction L with
  | nil => simp [insS]
  | cons y L ih =>
    rw [List.pairwise_cons] at pw
    have ny := nL y (by simp)
    have nL' : ∀ x ∈ L, nz x := fun x hx => nL x (by simp [hx])
    unfold insS
    split
    · rename_i b
      rw [List.pairwise_cons]
      refine ⟨?_, ih nL' pw.2⟩
      intro x hx
      rcases insS_mem hx with rfl | k
      · exact b
      · exact pw.1 x k
    · rename_i b
      split
      · rename_i s
        rw [List.pairwise_cons]
        exact ⟨fun x hx => sd_bef (tig_nz ny nh) ny (nL' x hx) (tig_sd s).1 (pw.1 x hx), pw.2⟩
      · rename_i s
        have hb : bef h y = true := by
          rcases bef_tri y h with k | k | k
          · exact absurd k b
          · exact k
          · exact absurd k s
        rw [List.pairwise_cons, List.pairwise_cons]
        refine ⟨?_, pw⟩
        intro x hx
        simp only [List.mem_cons] at hx
        rcases hx with rfl | hx
        · exact hb
        · exact bef_trans nh ny (nL' x hx) hb (pw.1 x hx)
theorem insS_has {L : List H3} {h : H3} (nL : ∀ x ∈ L, nz x) : (∃ x ∈ insS L h, sd x h = true ∧ x.c * len h ≤ h.c * len x) ∧ ∀ y ∈ L, ∃ x ∈ insS L h, sd x y = true ∧ x.c * len y ≤ y.c * len x := by
  induction L with
  | nil => exact ⟨⟨h, by simp [insS], sd_refl _, Int.le_refl _⟩, by simp⟩
  | cons y L ih =>
    have ny := nL y (by simp)
    have nL' : ∀ x ∈ L, nz x := fun x hx => nL x (by simp [hx])
    have ih := ih nL'
    unfold insS
    split
    · obtain ⟨⟨x, hx, k⟩, b⟩ := ih
      refine ⟨⟨x, by simp [hx], k⟩, ?_⟩
      intro z hz
      simp only [List.mem_cons] at hz
      rcases hz with rfl | hz
      · exact ⟨z, by simp, sd_refl _, Int.le_refl _⟩
      · obtain ⟨x, hx, k⟩ := b z hz
        exact ⟨x, by simp [hx], k⟩
    · split
      · rename_i s
        refine ⟨⟨tig y h, by simp, (tig_sd s).2, (tig_le y h).2⟩, ?_⟩
        intro z hz
        simp only [List.mem_cons] at hz
        rcases hz with rfl | hz
        · exact ⟨tig z h, by simp, (tig_sd s).1, (tig_le z h).1⟩
        · exact ⟨z, by simp [hz], sd_refl _, Int.le_refl _⟩
      · refine ⟨⟨h, by simp, sd_refl _, Int.le_refl _⟩, ?_⟩
        intro z hz
        exact ⟨z, by simp only [List.mem_cons] at hz ⊢; exact Or.inr hz, sd_refl _, Int.le_refl _⟩
theorem srt_step {H L : List H3} (s : Srt H L) (nH : ∀ x ∈ H, nz x) {h : H3} (nh : nz h) : Srt (H ++ [h]) (insS L h) := by
  obtain ⟨pw, sub, has⟩ := s
  have nL : ∀ x ∈ L, nz x := fun x hx => nH x (sub x hx)
  refine ⟨insS_pw nL nh pw, ?_, ?_⟩
  · intro x hx
    rcases insS_mem hx with rfl | k
    · simp
    · simp [sub x k]
  · intro z hz
    simp only [List.mem_append, List.mem_singleton] at hz
    have i := insS_has (h := h) nL
    rcases hz with hz | rfl
    · obtain ⟨x, hx, k1, k2⟩ := has z hz
      obtain ⟨y, hy, l1, l2⟩ := i.2 x hx
      have ny : nz y := by
        rcases insS_mem hy with rfl | k
        · exact nh
        · exact nL y k
      exact ⟨y, hy, sd_trans ny (nL x hx) (nH z hz) l1 k1, tight_trans ny (nL x hx) (nH z hz) l2 k2⟩
    · exact i.1
theorem srt_fold {H L : List H3} (s : Srt H L) (nH : ∀ x ∈ H, nz x) (hs : List H3) (n : ∀ x ∈ hs, nz x) : Srt (H ++ hs) (hs.foldl insS L) := by
  induction hs generalizing H L with
  | nil => simpa using s
  | cons h hs ih =>
    have nh := n h (by simp)
    have := ih (srt_step s nH nh) (by
      intro x hx
      simp only [List.mem_append, List.mem_singleton] at hx
      rcases hx with hx | rfl
      · exact nH x hx
      · exact nh) fun x hx => n x (by simp [hx])
    simpa using this
theorem srt_srt (hs : List H3) (n : ∀ x ∈ hs, nz x) : Srt hs (srt hs) := by
  have := srt_fold (H := []) (L := []) ⟨by simp, by simp, by simp⟩ (by simp) hs n
  simpa [srt] using this
theorem sorted_eq : ∀ {L M : List H3}, L.Pairwise (fun f g => bef f g = true) → M.Pairwise (fun f g => bef f g = true) → (∀ x, x ∈ L ↔ x ∈ M) → L = M
  | [], [], _, _, _ => rfl
  | [], y :: M, _, _, k => by have := (k y).2 (by simp); simp at this
  | x :: L, [], _, _, k => by have := (k x).1 (by simp); simp at this
  | x :: L, y :: M, p, q, k => by
    rw [List.pairwise_cons] at p q
    have e : x = y := by
      have h1 := (k x).1 (by simp)
      have h2 := (k y).2 (by simp)
      simp only [List.mem_cons] at h1 h2
      rcases h1 with h1 | h1
      · exact h1
      · rcases h2 with h2 | h2
        · exact h2.symm
        · have a := bef_asym (p.1 y h2)
          rw [q.1 x h1] at a; cases a
    subst e
    rw [sorted_eq p.2 q.2]
    intro z
    have nx : ∀ {N : List H3}, (∀ a ∈ N, bef x a = true) → x ∉ N := fun h m => by
      have := h x m; rw [bef_irr] at this; cases this
    have h := k z
    simp only [List.mem_cons] at h
    constructor
    · intro m
      rcases h.1 (Or.inr m) with rfl | r
      · exact absurd m (nx p.1)
      · exact r
    · intro m
      rcases h.2 (Or.inr m) with rfl | r
      · exact absurd m (nx q.1)
      · exact r
/-- two different points of all half planes H on the border of k -/
def Two (H : List H3) (k : H3) : Prop := ∃ X Y W X' Y' W' : Int, 0 < W ∧ 0 < W' ∧ val k X Y W = 0 ∧ val k X' Y' W' = 0 ∧ (∀ g ∈ H, val g X Y W ≤ 0) ∧ (∀ g ∈ H, val g X' Y' W' ≤ 0) ∧ ¬(X * W' = X' * W ∧ Y * W' = Y' * W)
/-- the crossings of k with two others that lie in all half planes H and differ -/
def Crs (H L : List H3) (k : H3) : Prop := ∃ f g, f ∈ L ∧ g ∈ L ∧ f ≠ k ∧ g ≠ k ∧ 0 < tn f k ∧ 0 < tn k g ∧ D f k g < 0 ∧ ∀ x ∈ H, D f k x ≤ 0 ∧ D k g x ≤ 0
theorem on_line {f g : H3} {X Y W : Int} (a : val f X Y W = 0) (b : val g X Y W = 0) : tn f g * X = W * (f.c * g.b - f.b * g.c) ∧ tn f g * Y = W * (f.a * g.c - f.c * g.a) := by
  unfold val at a b; unfold tn; grind
/-- an edge has two points on its border and is one of the polygon's -/
theorem edge_in {E H L : List H3} (P : Poly E) (sE : ∀ x ∈ E, x ∈ H) (c : ∀ p ∈ cyc E, ∀ g ∈ H, D p.1 p.2 g ≤ 0) (s : Srt H L) (nH : ∀ x ∈ H, nz x) (EL : ∀ x ∈ E, x ∈ L) {k : H3} (kL : k ∈ L) (two : Two H k) : k ∈ E := by
  have nk := nH k (s.2.1 k kL)
  obtain ⟨f, g, m, t1, t2, sup⟩ := support P nk
  obtain ⟨X, Y, W, X', Y', W', w, w', v, v', a, a', ne⟩ := two
  have fE := (cyc_mem m).1
  have gE := (cyc_mem m).2
  have nf := P.2.1 f fE
  have ngg := P.2.1 g gE
  have t := (P.2.2.2 _ m).1
  simp only at t fE gE
  have d := c _ m k (s.2.1 k kL)
  simp only at d
  have key : ∀ X Y W : Int, 0 < W → val k X Y W = 0 → (∀ g ∈ H, val g X Y W ≤ 0) → 0 < tn f k → 0 < tn k g → val f X Y W = 0 ∧ val g X Y W = 0 := by
    intro X Y W w v a t1 t2
    have e := id4 f g k X Y W
    rw [v] at e
    have h1 := a f (sE f fE)
    have h2 := a g (sE g gE)
    have p1 := Int.mul_nonpos_of_nonneg_of_nonpos (Int.le_of_lt t2) h1
    have p2 := Int.mul_nonpos_of_nonneg_of_nonpos (Int.le_of_lt t1) h2
    have p3 := Int.mul_nonpos_of_nonneg_of_nonpos (Int.le_of_lt w) d
    have z1 : tn k g * val f X Y W = 0 := by omega
    have z2 : tn f k * val g X Y W = 0 := by omega
    rcases Int.mul_eq_zero.1 z1 with h | h
    · omega
    rcases Int.mul_eq_zero.1 z2 with h' | h'
    · omega
    exact ⟨h, h'⟩
  -- the same direction as f or g: it is f or g
  have same : ∀ e ∈ E, sd e k = true → k = e := by
    intro e he sk
    have eL := EL e he
    rcases List.pairwise_iff_getElem.1 s.1 with pw
    obtain ⟨i, hi, rfl⟩ := List.getElem_of_mem kL
    obtain ⟨j, hj, rfl⟩ := List.getElem_of_mem eL
    have b1 := sd_nbef sk
    have b2 := sd_nbef (sd_symm sk)
    rcases Nat.lt_trichotomy i j with h | h | h
    · have := pw i j hi hj h; rw [this] at b2; cases b2
    · subst h; rfl
    · have := pw j i hj hi h; rw [this] at b1; cases b1
  by_cases z1 : tn f k = 0
  · -- parallel to f: the same direction, since it turns to g the same way
    have e1 : sd f k = true := by
      have := three_ft nf nk ngg
      rw [sd_ft]; rw [tn_ft] at z1 t t2
      cases e1 : up f <;> cases e2 : up k <;> cases e3 : up g <;> simp [e1, e2, e3] at z1 t t2 ⊢ <;> omega
    rw [same f fE e1]; exact fE
  · by_cases z2 : tn k g = 0
    · have e1 : sd g k = true := by
        have := three_ft nf nk ngg
        have := ft_swap k g
        rw [sd_ft]; rw [tn_ft] at z2 t t1
        cases e1 : up f <;> cases e2 : up k <;> cases e3 : up g <;> simp [e1, e2, e3] at z2 t t1 ⊢ <;> omega
      rw [same g gE e1]; exact gE
    · exfalso
      obtain ⟨h1, h2⟩ := key X Y W w v a (by omega) (by omega)
      obtain ⟨h3, h4⟩ := key X' Y' W' w' v' a' (by omega) (by omega)
      obtain ⟨l1, l2⟩ := on_line h1 h2
      obtain ⟨l3, l4⟩ := on_line h3 h4
      apply ne
      constructor
      · have : tn f g * (X * W') = tn f g * (X' * W) := by grind
        exact Int.eq_of_mul_eq_mul_left (by omega) this
      · have : tn f g * (Y * W') = tn f g * (Y' * W) := by grind
        exact Int.eq_of_mul_eq_mul_left (by omega) this
/-- an edge of the polygon is the tightest of its direction -/
theorem edge_list {E H L : List H3} (P : Poly E) (sE : ∀ x ∈ E, x ∈ H) (c : ∀ p ∈ cyc E, ∀ g ∈ H, D p.1 p.2 g ≤ 0) (s : Srt H L) (nH : ∀ x ∈ H, nz x) (gH : ∀ x ∈ H, gc x = 1) {e : H3} (he : e ∈ E) : e ∈ L := by
  have ne := P.2.1 e he
  obtain ⟨x, hx, k, t⟩ := s.2.2 e (sE e he)
  have xH := s.2.1 x hx
  have nx := nH x xH
  have : ∃ p ∈ cyc E, p.1 = e := by
    have : e ∈ (cyc E).map Prod.fst := by unfold cyc; rw [prs_fst]; exact he
    obtain ⟨p, hp, rfl⟩ := List.mem_map.1 this
    exact ⟨p, hp, rfl⟩
  obtain ⟨⟨p, q⟩, hp, rfl⟩ := this
  simp only at *
  have tp := (P.2.2.2 _ hp).1
  simp only at tp
  have d := c _ hp x xH
  simp only at d
  have eq : x.c * len p = p.c * len x := by
    rcases Int.lt_or_le (x.c * len p) (p.c * len x) with h | h
    · exfalso
      have sl := sd_len nx ne k
      have id : len x * D p q p = len p * D p q x + tn p q * (x.c * len p - p.c * len x) := by
        unfold D tn; grind
      rw [D_same1] at id
      have := Int.mul_nonpos_of_nonneg_of_nonpos (Int.le_of_lt (len_pos ne)) d
      have := Int.mul_neg_of_pos_of_neg tp (by omega : x.c * len p - p.c * len x < 0)
      omega
    · omega
  have := same_eq nx ne k eq (gH x xH) (gH p (sE p he))
  rw [← this]; exact hx
theorem edge_crs {E H L : List H3} (P : Poly E) (c : ∀ p ∈ cyc E, ∀ g ∈ H, D p.1 p.2 g ≤ 0) (EL : ∀ x ∈ E, x ∈ L) {e : H3} (he : e ∈ E) : Crs H L e := by
  have h1 : ∃ g, (e, g) ∈ cyc E := by
    have : e ∈ (cyc E).map Prod.fst := by unfold cyc; rw [prs_fst]; exact he
    obtain ⟨⟨p, q⟩, hp, rfl⟩ := List.mem_map.1 this
    exact ⟨q, hp⟩
  have h2 : ∃ f, (f, e) ∈ cyc E := by
    obtain ⟨i, hi, rfl⟩ := List.getElem_of_mem he
    have : E = E.take i ++ (E[i] :: E.drop (i + 1)) := by simp
    rcases List.eq_nil_or_concat (E.drop (i + 1) ++ E.take i) with k | ⟨l, f, k⟩
    · exfalso
      have e := congrArg List.length k
      have l3 := P.1
      simp only [List.length_append, List.length_drop, List.length_take, List.length_nil] at e
      omega
    · refine ⟨f, ?_⟩
      have hc : (f, E[i]) ∈ cyc (E[i] :: (E.drop (i + 1) ++ E.take i)) := by
        rw [k, List.concat_eq_append]
        show _ ∈ prs (E[i] :: (l ++ [f])) E[i]
        rw [← List.cons_append, prs_append]
        simp [prs]
      rw [← List.cons_append] at hc
      rw [cyc_turn] at hc
      rwa [← this] at hc
  obtain ⟨g, hg⟩ := h1
  obtain ⟨f, hf⟩ := h2
  have cf := P.2.2.2 _ hf
  have cg := P.2.2.2 _ hg
  have nn := cf.ne cg
  exact ⟨f, g, EL f (cyc_mem hf).1, EL g (cyc_mem hg).2, fun h => nn.2.2 h.symm, nn.2.1, cf.1, cg.1, cf.lt cg (cyc_mem hg).2, fun x hx => ⟨c _ hf x hx, c _ hg x hx⟩⟩
/-- the model's edges are the polygon's -/
theorem edges_eq {E H L : List H3} (P : Poly E) (sE : ∀ x ∈ E, x ∈ H) (c : ∀ p ∈ cyc E, ∀ g ∈ H, D p.1 p.2 g ≤ 0) (s : Srt H L) (nH : ∀ x ∈ H, nz x) (gH : ∀ x ∈ H, gc x = 1)
    (ie : H3 → Bool) (i1 : ∀ k ∈ L, ie k = true → Two H k) (i2 : ∀ k ∈ L, Crs H L k → ie k = true) : L.filter ie = E := by
  have EL : ∀ x ∈ E, x ∈ L := fun x hx => edge_list P sE c s nH gH hx
  refine sorted_eq (s.1.sublist List.filter_sublist) P.2.2.1 fun x => ?_
  rw [List.mem_filter]
  constructor
  · rintro ⟨m, k⟩
    exact edge_in P sE c s nH EL m (i1 x m k)
  · intro m
    exact ⟨EL x m, i2 x (EL x m) (edge_crs P c EL m)⟩
theorem par_two : ∀ {L : List H3} {h : H3}, L.Pairwise (fun f g => bef f g = true) → nz h → (∀ x ∈ L, nz x) → (∀ x ∈ L, tn x h = 0) → L.length < 3
  | [], _, _, _, _, _ => by simp
  | [_], _, _, _, _, _ => by simp
  | [_, _], _, _, _, _, _ => by simp
  | x :: y :: z :: L, h, p, nh, n, k => by
    exfalso
    simp only [List.pairwise_cons] at p
    have b1 := p.1 y (by simp)
    have b2 := p.2.1 z (by simp)
    have nx := n x (by simp)
    have ny := n y (by simp)
    have nzz := n z (by simp)
    have kx := k x (by simp)
    have ky := k y (by simp)
    have kz := k z (by simp)
    have := three_ft nx nh ny
    have := three_ft ny nh nzz
    have := ft_swap y h
    have := ft_swap z h
    rw [tn_ft] at kx ky kz
    rw [bef_ft] at b1 b2
    have kx : ft x h = 0 := by split at kx <;> omega
    have ky : ft y h = 0 := by split at ky <;> omega
    have kz : ft z h = 0 := by split at kz <;> omega
    cases e1 : up x <;> cases e2 : up y <;> cases e3 : up z <;> simp [e1, e2, e3] at b1 b2 <;> omega
/-- on one line, the model finds at most two edges -/
theorem edges_flat {H L : List H3} (f : Flat H) (s : Srt H L) (nH : ∀ x ∈ H, nz x) (ie : H3 → Bool) (i1 : ∀ k ∈ L, ie k = true → Two H k) : (L.filter ie).length < 3 := by
  obtain ⟨h, nh, fl⟩ := f
  refine par_two (s.1.sublist List.filter_sublist) nh (fun x hx => nH x (s.2.1 x (List.mem_filter.1 hx).1)) ?_
  intro x hx
  obtain ⟨m, k⟩ := List.mem_filter.1 hx
  obtain ⟨X, Y, W, X', Y', W', w, w', v, v', a, a', ne⟩ := i1 x m k
  have u := fl X Y W w a
  have u' := fl X' Y' W' w' a'
  by_cases z : tn x h = 0
  · exact z
  · exfalso
    apply ne
    have key : ∀ X Y W : Int, val x X Y W = 0 → val h X Y W = 0 → tn x h * X = W * (x.c * h.b - x.b * h.c) ∧ tn x h * Y = W * (x.a * h.c - x.c * h.a) := by
      intro X Y W a b
      unfold val at a b; unfold tn; grind
    obtain ⟨l1, l2⟩ := key X Y W v u
    obtain ⟨l3, l4⟩ := key X' Y' W' v' u'
    constructor
    · have : tn x h * (X * W') = tn x h * (X' * W) := by grind
      exact Int.eq_of_mul_eq_mul_left z this
    · have : tn x h * (Y * W') = tn x h * (Y' * W) := by grind
      exact Int.eq_of_mul_eq_mul_left z this
end Go.Proofs.Ytibkmhmeoelpdaa.Geo
