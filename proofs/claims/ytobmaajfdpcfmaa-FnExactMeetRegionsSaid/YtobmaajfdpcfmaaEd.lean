/- The model's edges are those that the geometry speaks of: two crossings inside that differ. -/
import Derived.Test.YtobmaajfdpcfmaaSd
namespace Go.Proofs.Ytobmaajfdpcfmaa
open Geo (H3)

theorem gS_scale (k x y d : Int) (hk : 0 < k) : (gS (k * x) (k * y) (k * d) : Int) = k * (gS x y d : Int) := by
  unfold gS
  rw [Int.gcd_mul_left]
  have : ((k.natAbs * Int.gcd x y : Nat) : Int) = k * (Int.gcd x y : Int) := by rw [Int.natCast_mul, Int.natAbs_of_nonneg (Int.le_of_lt hk)]
  rw [this, Int.gcd_mul_left, Int.natCast_mul, Int.natAbs_of_nonneg (Int.le_of_lt hk)]
/-- the parts of a point over what divides all three -/
theorem parts (x y d : Int) (hd : 1 ≤ d) : ∃ X Y D g : Int, 1 ≤ g ∧ g = (gS x y d : Int) ∧ x = g * X ∧ y = g * Y ∧ d = g * D ∧ x.tdiv g = X ∧ y.tdiv g = Y ∧ d.tdiv g = D ∧ 1 ≤ D := by
  have hg := gS_pos x y d hd
  obtain ⟨X, hX⟩ := gS_dvd_x x y d
  obtain ⟨Y, hY⟩ := gS_dvd_y x y d
  obtain ⟨D, hD⟩ := gS_dvd_d x y d
  have hg1 : (1 : Int) ≤ (gS x y d : Int) := by omega
  have hne : (gS x y d : Int) ≠ 0 := by omega
  generalize (gS x y d : Int) = g at *
  refine ⟨X, Y, D, g, hg1, rfl, hX, hY, hD, ?_, ?_, ?_, ?_⟩
  · rw [hX]; exact Int.mul_tdiv_cancel_left _ hne
  · rw [hY]; exact Int.mul_tdiv_cancel_left _ hne
  · rw [hD]; exact Int.mul_tdiv_cancel_left _ hne
  · rcases Int.lt_or_le D 1 with h | h
    · have : g * D ≤ g * 0 := Int.mul_le_mul_of_nonneg_left (by omega) (by omega)
      omega
    · exact h
/-- a point of the frame has a spot -/
theorem has_of {p : H3} (hp : PtB p) (hf : frmB p = true) : hasS p.a p.b p.c = true ∧ 1 ≤ p.c := by
  obtain ⟨_, _, _, _, d1, d2⟩ := hp
  unfold frmB at hf
  simp only [Bool.and_eq_true, decide_eq_true_eq] at hf
  obtain ⟨⟨⟨⟨h0, h1⟩, h2⟩, h3⟩, h4⟩ := hf
  have hd : 1 ≤ p.c := by omega
  refine ⟨?_, hd⟩
  obtain ⟨X, Y, D, g, hg, eg, hX, hY, hD, tX, tY, tD, hD1⟩ := parts p.a p.b p.c hd
  rw [hasS_of hd, ← eg, tX, tY, tD, okS_iff]
  have low : gS X Y D = 1 := by
    have := gS_scale g X Y D (by omega)
    rw [← hX, ← hY, ← hD, ← eg] at this
    have h1 : g * 1 = g * (gS X Y D : Int) := by omega
    have := Int.eq_of_mul_eq_mul_left (by omega) h1
    omega
  have le : ∀ u v : Int, g * u ≤ g * v → u ≤ v := fun u v h => Int.le_of_mul_le_mul_left h (by omega)
  refine ⟨hD1, ?_, ?_, ?_, ?_, ?_, low⟩
  · have : 1 * D ≤ g * D := Int.mul_le_mul_of_nonneg_right hg (by omega)
    omega
  · refine le _ _ ?_; rw [← hX, Int.mul_neg, ← Int.mul_assoc, Int.mul_comm g 1000, Int.mul_assoc, ← hD]; omega
  · refine le _ _ ?_; rw [← hX, ← Int.mul_assoc, Int.mul_comm g 1000, Int.mul_assoc, ← hD]; omega
  · refine le _ _ ?_; rw [← hY, Int.mul_neg, ← Int.mul_assoc, Int.mul_comm g 1000, Int.mul_assoc, ← hD]; omega
  · refine le _ _ ?_; rw [← hY, ← Int.mul_assoc, Int.mul_comm g 1000, Int.mul_assoc, ← hD]; omega
/-- two points of the frame are the same spot exactly if they are one point -/
theorem dif_iff {p q : H3} (hp : PtB p) (hq : PtB q) (fp : frmB p = true) (fq : frmB q = true) : difB p q = true ↔ ¬(p.a * q.c = q.a * p.c ∧ p.b * q.c = q.b * p.c) := by
  obtain ⟨sp, dp⟩ := has_of hp fp
  obtain ⟨sq, dq⟩ := has_of hq fq
  obtain ⟨X, Y, D, g, hg, eg, hX, hY, hD, tX, tY, tD, hD1⟩ := parts p.a p.b p.c dp
  obtain ⟨X', Y', D', g', hg', eg', hX', hY', hD', tX', tY', tD', hD1'⟩ := parts q.a q.b q.c dq
  have key : spP p = ⟨X, Y, D⟩ ∧ spP q = ⟨X', Y', D'⟩ := by
    unfold spP kp
    rw [sp, sq, ← eg, ← eg', tX, tY, tD, tX', tY', tD']
    simp
  unfold difB
  rw [key.1, key.2, decide_eq_true_eq, ne_eq]
  refine not_congr ?_
  constructor
  · intro e
    simp only [H3.mk.injEq] at e
    obtain ⟨rfl, rfl, rfl⟩ := e
    rw [hX, hX', hY, hY', hD, hD']
    constructor <;> grind
  · rintro ⟨e1, e2⟩
    have s1 := gS_scale q.c p.a p.b p.c (by omega)
    have s2 := gS_scale p.c q.a q.b q.c (by omega)
    rw [show q.c * p.a = p.c * q.a by grind, show q.c * p.b = p.c * q.b by grind, show q.c * p.c = p.c * q.c by grind, s2, ← eg, ← eg'] at s1
    -- p.c * g' = q.c * g
    have eD : D = D' := by
      have : (g * g') * D = (g * g') * D' := by rw [hD, hD'] at s1; grind
      exact Int.eq_of_mul_eq_mul_left (by have := Int.mul_pos (show 0 < g by omega) (show 0 < g' by omega); omega) this
    subst eD
    have cancel : ∀ u v : Int, (g * g' * D) * u = (g * g' * D) * v → u = v := fun u v h =>
      Int.eq_of_mul_eq_mul_left (by have := Int.mul_pos (Int.mul_pos (show 0 < g by omega) (show 0 < g' by omega)) (show 0 < D by omega); omega) h
    have eX : X = X' := cancel _ _ (by rw [hX, hX', hD, hD'] at e1; grind)
    have eY : Y = Y' := cancel _ _ (by rw [hY, hY', hD, hD'] at e2; grind)
    rw [eX, eY]
theorem cr_on (f g : H3) : Geo.val f (crP f g).a (crP f g).b (crP f g).c = 0 := by
  unfold crP Geo.val; split <;> simp only <;> grind
theorem cr_pos {f g : H3} (h : 0 < Geo.tn f g) : (crP f g).c = Geo.tn f g ∧ ∀ y, Geo.val y (crP f g).a (crP f g).b (crP f g).c = Geo.D f g y := by
  unfold Geo.tn at h
  unfold crP
  rw [if_neg (by grind)]
  refine ⟨by unfold Geo.tn; simp only; grind, fun y => ?_⟩
  unfold Geo.val Geo.D; simp only; grind
theorem cr_neg {f g : H3} (h : 0 < Geo.tn g f) : (crP f g).c = Geo.tn g f ∧ ∀ y, Geo.val y (crP f g).a (crP f g).b (crP f g).c = Geo.D g f y := by
  unfold Geo.tn at h
  unfold crP
  rw [if_pos (by grind)]
  refine ⟨by unfold Geo.tn; simp only; grind, fun y => ?_⟩
  unfold Geo.val Geo.D; simp only; grind
theorem hol_val (p h : H3) : holB p h = true ↔ Geo.val h p.a p.b p.c ≤ 0 := by
  unfold holB Geo.val; rw [decide_eq_true_eq]; omega
/-- the edges as the model finds them, up to place k -/
def outE (L : List H3) (k : Nat) : List H3 := ((List.range k).filter (fun i => edgB L i)).map (atI L)
def ieB (L : List H3) (x : H3) : Bool := (List.range L.length).any (fun i => decide (atI L i = x) && edgB L i)
theorem atI_get {L : List H3} {i : Nat} (h : i < L.length) : atI L i = L[i] := by unfold atI; rw [List.getElem?_eq_getElem h]; rfl
theorem ie_at {L : List H3} (nd : L.Nodup) {k : Nat} (h : k < L.length) : ieB L (atI L k) = edgB L k := by
  rw [Bool.eq_iff_iff]
  unfold ieB
  rw [List.any_eq_true]
  constructor
  · rintro ⟨i, hi, hh⟩
    rw [List.mem_range] at hi
    rw [Bool.and_eq_true, decide_eq_true_eq] at hh
    have e := hh.1
    rw [atI_get hi, atI_get h] at e
    have : i = k := (List.getElem_inj nd).1 e
    rw [← this]; exact hh.2
  · intro e
    exact ⟨k, List.mem_range.2 h, by rw [e]; simp⟩
theorem range_map (L : List H3) : (List.range L.length).map (atI L) = L := by
  apply List.ext_getElem
  · simp
  · intro i h1 h2
    simp only [List.getElem_map, List.getElem_range]
    exact atI_get h2
theorem out_filter {L : List H3} (nd : L.Nodup) : outE L L.length = L.filter (ieB L) := by
  have e : L.filter (ieB L) = ((List.range L.length).map (atI L)).filter (ieB L) := by rw [range_map]
  rw [e, List.filter_map]
  unfold outE
  congr 1
  apply List.filter_congr
  intro i hi
  rw [List.mem_range] at hi
  exact (ie_at nd hi).symm
theorem mem_atI {L : List H3} {x : H3} (h : x ∈ L) : ∃ i, i < L.length ∧ atI L i = x := by
  obtain ⟨i, hi, rfl⟩ := List.getElem_of_mem h
  exact ⟨i, hi, atI_get hi⟩
theorem gd_parts {L : List H3} (hL : ∀ x ∈ L, okB x = true) {k i : Nat} (hk : k < L.length) (hi : i < L.length) (g : gdI L k i = true) : i ≠ k ∧ PtB (ptI L k i) ∧ frmB (ptI L k i) = true ∧ ∀ x ∈ L, holB (ptI L k i) x = true := by
  unfold gdI insB at g
  simp only [Bool.and_eq_true, decide_eq_true_eq] at g
  refine ⟨g.1, ?_, g.2.1, List.all_eq_true.1 g.2.2⟩
  unfold ptI
  rw [atI_get hk, atI_get hi]
  exact cr_pt (hL _ (List.getElem_mem _)) (hL _ (List.getElem_mem _))
theorem sound {H L : List H3} (s : Geo.Srt H L) (hH : ∀ x ∈ H, okB x = true) : ∀ x ∈ L, ieB L x = true → Geo.Two H x := by
  intro x hx hi
  have hL : ∀ x ∈ L, okB x = true := fun y hy => hH y (s.2.1 y hy)
  obtain ⟨k, hk, rfl⟩ := mem_atI hx
  rw [ie_at (Geo.nodup_of s.1) hk] at hi
  unfold edgB at hi
  rw [List.any_eq_true] at hi
  obtain ⟨i, hi, hh⟩ := hi
  rw [Bool.and_eq_true, List.any_eq_true] at hh
  obtain ⟨gi, j, hj, hh⟩ := hh
  rw [Bool.and_eq_true] at hh
  rw [List.mem_range] at hi hj
  obtain ⟨_, pi, fi, ai⟩ := gd_parts hL hk hi gi
  obtain ⟨_, pj, fj, aj⟩ := gd_parts hL hk hj hh.1
  have all : ∀ p : H3, 0 < p.c → (∀ x ∈ L, holB p x = true) → ∀ g ∈ H, Geo.val g p.a p.b p.c ≤ 0 := by
    intro p hp a g hg
    obtain ⟨y, hy, k1, k2⟩ := s.2.2 g hg
    exact Geo.tight_val (okB_nz (hL y hy)) (okB_nz (hH g hg)) k1 k2 (by omega) ((hol_val p y).1 (a y hy))
  have wi := (has_of pi fi).2
  have wj := (has_of pj fj).2
  exact ⟨(ptI L k i).a, (ptI L k i).b, (ptI L k i).c, (ptI L k j).a, (ptI L k j).b, (ptI L k j).c, by omega, by omega, cr_on _ _, cr_on _ _, all _ (by omega) ai, all _ (by omega) aj, (dif_iff pi pj fi fj).1 hh.2⟩
theorem compl {H L : List H3} (s : Geo.Srt H L) (hH : ∀ x ∈ H, okB x = true) (hF : ∀ x ∈ Geo.frame, x ∈ H) : ∀ x ∈ L, Geo.Crs H L x → ieB L x = true := by
  intro x hx ⟨f, g, hf, hg, nf, ng, t1, t2, d, a⟩
  have hL : ∀ x ∈ L, okB x = true := fun y hy => hH y (s.2.1 y hy)
  obtain ⟨k, hk, rfl⟩ := mem_atI hx
  obtain ⟨i, hi, rfl⟩ := mem_atI hf
  obtain ⟨j, hj, rfl⟩ := mem_atI hg
  rw [ie_at (Geo.nodup_of s.1) hk]
  have ik : i ≠ k := fun e => nf (by rw [e])
  have jk : j ≠ k := fun e => ng (by rw [e])
  have c1 := cr_neg t1
  have c2 := cr_pos t2
  have good : ∀ p : H3, 0 < p.c → (∀ y ∈ H, Geo.val y p.a p.b p.c ≤ 0) → insB L p = true ∧ frmB p = true := by
    intro p hp v
    have v1 := v ⟨1, 0, 1000⟩ (hF _ (by simp [Geo.frame]))
    have v2 := v ⟨0, 1, 1000⟩ (hF _ (by simp [Geo.frame]))
    have v3 := v ⟨-1, 0, 1000⟩ (hF _ (by simp [Geo.frame]))
    have v4 := v ⟨0, -1, 1000⟩ (hF _ (by simp [Geo.frame]))
    unfold Geo.val at v1 v2 v3 v4
    simp only at v1 v2 v3 v4
    have fr : frmB p = true := by unfold frmB; simp only [Bool.and_eq_true, decide_eq_true_eq]; omega
    refine ⟨?_, fr⟩
    unfold insB
    rw [fr, Bool.true_and, List.all_eq_true]
    exact fun y hy => (hol_val p y).2 (v y (s.2.1 y hy))
  obtain ⟨i1, f1⟩ := good (crP (atI L k) (atI L i)) (by rw [c1.1]; exact t1) (fun y hy => by rw [c1.2]; exact (a y hy).1)
  obtain ⟨i2, f2⟩ := good (crP (atI L k) (atI L j)) (by rw [c2.1]; exact t2) (fun y hy => by rw [c2.2]; exact (a y hy).2)
  have okk : ∀ m, m < L.length → okB (atI L m) = true := fun m hm => by rw [atI_get hm]; exact hL _ (List.getElem_mem _)
  have p1 := cr_pt (okk k hk) (okk i hi)
  have p2 := cr_pt (okk k hk) (okk j hj)
  have dd : difB (crP (atI L k) (atI L i)) (crP (atI L k) (atI L j)) = true := by
    rw [dif_iff p1 p2 f1 f2]
    rintro ⟨e1, e2⟩
    have v1 := c1.2 (atI L j)
    have v2 := c2.2 (atI L j)
    rw [Geo.D_same2] at v2
    have w1 : 0 < (crP (atI L k) (atI L i)).c := by rw [c1.1]; exact t1
    have w2 : 0 < (crP (atI L k) (atI L j)).c := by rw [c2.1]; exact t2
    generalize crP (atI L k) (atI L i) = p at *
    generalize crP (atI L k) (atI L j) = q at *
    unfold Geo.val at v1 v2
    have : q.c * Geo.D (atI L i) (atI L k) (atI L j) = 0 := by
      rw [← v1]
      have : q.c * ((atI L j).a * p.a + (atI L j).b * p.b - (atI L j).c * p.c) = p.c * ((atI L j).a * q.a + (atI L j).b * q.b - (atI L j).c * q.c) := by grind
      rw [this, v2, Int.mul_zero]
    rcases Int.mul_eq_zero.1 this with h | h <;> omega
  unfold edgB
  rw [List.any_eq_true]
  refine ⟨i, List.mem_range.2 hi, ?_⟩
  rw [Bool.and_eq_true, List.any_eq_true]
  refine ⟨?_, j, List.mem_range.2 hj, ?_⟩
  · unfold gdI ptI; rw [i1]; simp [ik]
  · rw [Bool.and_eq_true]
    refine ⟨?_, dd⟩
    unfold gdI ptI; rw [i2]; simp [jk]
/-- the model's region: the edges of all half planes and the frame, none if there are fewer than three -/
def modL (hs : List H3) : List H3 := if (outE (Geo.srt (hs ++ Geo.frame)) (Geo.srt (hs ++ Geo.frame)).length).length < 3 then [] else outE (Geo.srt (hs ++ Geo.frame)) (Geo.srt (hs ++ Geo.frame)).length
theorem okB_gc {h : H3} (k : okB h = true) : Geo.gc h = 1 := by
  obtain ⟨_, _, _, _, _, _, _, h8⟩ := (okH_iff _ _ _).1 k
  exact h8
theorem mod_of {hs E : List H3} (hok : hs.all okB = true) (i : Geo.Inv E (hs ++ Geo.frame)) : modL hs = E := by
  have hH : ∀ x ∈ hs ++ Geo.frame, okB x = true := by
    intro x hx
    rcases List.mem_append.1 hx with h | h
    · exact List.all_eq_true.1 hok x h
    · exact frame_ok x h
  have s := Geo.srt_srt (hs ++ Geo.frame) fun x hx => okB_nz (hH x hx)
  have nH : ∀ x ∈ hs ++ Geo.frame, Geo.nz x := fun x hx => okB_nz (hH x hx)
  unfold modL
  rw [out_filter (Geo.nodup_of s.1)]
  rcases i with ⟨P, sE, c⟩ | ⟨rfl, f⟩
  · have e := Geo.edges_eq P sE c s nH (fun x hx => okB_gc (hH x hx)) (ieB (Geo.srt (hs ++ Geo.frame))) (sound s hH) (compl s hH (fun x hx => by simp [hx]))
    rw [e, if_neg (by have := P.1; omega)]
  · have e := Geo.edges_flat f s nH (ieB (Geo.srt (hs ++ Geo.frame))) (sound s hH)
    rw [if_pos e]
theorem Inv_swap {E H H' : List H3} (h : Geo.Inv E H) (e : ∀ x, x ∈ H ↔ x ∈ H') : Geo.Inv E H' := by
  rcases h with ⟨P, s, c⟩ | ⟨r, f⟩
  · exact Or.inl ⟨P, fun x hx => (e x).1 (s x hx), fun p hp g hg => c p hp g ((e g).2 hg)⟩
  · exact Or.inr ⟨r, f.mono fun g hg => (e g).1 hg⟩
/-- the program's region and the model's are the same -/
theorem mod_reg {hs : List H3} (hok : hs.all okB = true) : modL hs = regL hs :=
  mod_of hok (Inv_swap (regL_inv hok) fun x => by simp only [List.mem_append]; exact Or.comm)
end Go.Proofs.Ytobmaajfdpcfmaa
