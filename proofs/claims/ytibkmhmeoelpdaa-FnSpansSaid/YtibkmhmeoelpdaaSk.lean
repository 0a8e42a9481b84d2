/- The model's edges are those that the geometry speaks of: two crossings inside that differ. The contract of the model's l05Make over the translation: the region of valid half planes. The contracts of the model's l05Fit and RegionFrom over the translation. Marking a row of the call's own changes that row alone. -/
import Derived.Test.YtibkmhmeoelpdaaSm
import Derived.Laws.AppendOwnNone
import Derived.Maps.AppendAt
namespace Go.Proofs.Ytibkmhmeoelpdaa
open Geo (H3)
open Go.RowKit

theorem gS_scale (k x y d : Int) (hk : 0 < k) : (gS (k * x) (k * y) (k * d) : Int) = k * (gS x y d : Int) := by
  unfold gS
  rw [Int.gcd_mul_left]
  have : ((k.natAbs * Int.gcd x y : Nat) : Int) = k * (Int.gcd x y : Int) := by rw [Int.natCast_mul, Int.natAbs_of_nonneg (Int.le_of_lt hk)]
  rw [this, Int.gcd_mul_left, Int.natCast_mul, Int.natAbs_of_nonneg (Int.le_of_lt hk)]
/-- the parts of a point over what divides all three -/
theorem parts (x y d : Int) (hd : 1 ≤ d) : ∃ X Y D g : Int, 1 ≤ g ∧ g = (gS x y d : Int) ∧ x = g * X ∧ y = g * Y ∧ d = g * D ∧ x.tdiv g = X ∧ y.tdiv g = Y ∧ d.tdiv g = D ∧ 1 ≤ D := by
  have hg := gS_pos x y d hd
  obtain ⟨X, hX⟩ := gS_dvd_x x y d
  obtain ⟨Y, hY⟩ := gS_dvd_y x y d
  obtain ⟨D, hD⟩ := gS_dvd_d x y d
  have hg1 : (1 : Int) ≤ (gS x y d : Int) := by omega
  have hne : (gS x y d : Int) ≠ 0 := by omega
  generalize (gS x y d : Int) = g at *
  refine ⟨X, Y, D, g, hg1, rfl, hX, hY, hD, ?_, ?_, ?_, ?_⟩
  · rw [hX]; exact Int.mul_tdiv_cancel_left _ hne
  · rw [hY]; exact Int.mul_tdiv_cancel_left _ hne
  · rw [hD]; exact Int.mul_tdiv_cancel_left _ hne
  · rcases Int.lt_or_le D 1 with h | h
    · have : g * D ≤ g * 0 := Int.mul_le_mul_of_nonneg_left (by omega) (by omega)
      omega
    · exact h
/-- a point of the frame has a spot -/
theorem has_of {p : H3} (hp : PtB p) (hf : frmB p = true) : hasS p.a p.b p.c = true ∧ 1 ≤ p.c := by
  obtain ⟨_, _, _, _, d1, d2⟩ := hp
  unfold frmB at hf
  simp only [Bool.and_eq_true, decide_eq_true_eq] at hf
  obtain ⟨⟨⟨⟨h0, h1⟩, h2⟩, h3⟩, h4⟩ := hf
  have hd : 1 ≤ p.c := by omega
  refine ⟨?_, hd⟩
  obtain ⟨X, Y, D, g, hg, eg, hX, hY, hD, tX, tY, tD, hD1⟩ := parts p.a p.b p.c hd
  rw [hasS_of hd, ← eg, tX, tY, tD, okS_iff]
  have low : gS X Y D = 1 := by
    have := gS_scale g X Y D (by omega)
    rw [← hX, ← hY, ← hD, ← eg] at this
    have h1 : g * 1 = g * (gS X Y D : Int) := by omega
    have := Int.eq_of_mul_eq_mul_left (by omega) h1
    omega
  have le : ∀ u v : Int, g * u ≤ g * v → u ≤ v := fun u v h => Int.le_of_mul_le_mul_left h (by omega)
  refine ⟨hD1, ?_, ?_, ?_, ?_, ?_, low⟩
  · have : 1 * D ≤ g * D := Int.mul_le_mul_of_nonneg_right hg (by omega)
    omega
  · refine le _ _ ?_; rw [← hX, Int.mul_neg, ← Int.mul_assoc, Int.mul_comm g 1000, Int.mul_assoc, ← hD]; omega
  · refine le _ _ ?_; rw [← hX, ← Int.mul_assoc, Int.mul_comm g 1000, Int.mul_assoc, ← hD]; omega
  · refine le _ _ ?_; rw [← hY, Int.mul_neg, ← Int.mul_assoc, Int.mul_comm g 1000, Int.mul_assoc, ← hD]; omega
  · refine le _ _ ?_; rw [← hY, ← Int.mul_assoc, Int.mul_comm g 1000, Int.mul_assoc, ← hD]; omega
/-- two points of the frame are the same spot exactly if they are one point -/
theorem dif_iff {p q : H3} (hp : PtB p) (hq : PtB q) (fp : frmB p = true) (fq : frmB q = true) : difB p q = true ↔ ¬(p.a * q.c = q.a * p.c ∧ p.b * q.c = q.b * p.c) := by
  obtain ⟨sp, dp⟩ := has_of hp fp
  obtain ⟨sq, dq⟩ := has_of hq fq
  obtain ⟨X, Y, D, g, hg, eg, hX, hY, hD, tX, tY, tD, hD1⟩ := parts p.a p.b p.c dp
  obtain ⟨X', Y', D', g', hg', eg', hX', hY', hD', tX', tY', tD', hD1'⟩ := parts q.a q.b q.c dq
  have key : spP p = ⟨X, Y, D⟩ ∧ spP q = ⟨X', Y', D'⟩ := by
    unfold spP kp
    rw [sp, sq, ← eg, ← eg', tX, tY, tD, tX', tY', tD']
    simp
  unfold difB
  rw [key.1, key.2, decide_eq_true_eq, ne_eq]
  refine not_congr ?_
  constructor
  · intro e
    simp only [H3.mk.injEq] at e
    obtain ⟨rfl, rfl, rfl⟩ := e
    rw [hX, hX', hY, hY', hD, hD']
    constructor <;> grind
  · rintro ⟨e1, e2⟩
    have s1 := gS_scale q.c p.a p.b p.c (by omega)
    have s2 := gS_scale p.c q.a q.b q.c (by omega)
    rw [show q.c * p.a = p.c * q.a by grind, show q.c * p.b = p.c * q.b by grind, show q.c * p.c = p.c * q.c by grind, s2, ← eg, ← eg'] at s1
    -- p.c * g' = q.c * g
    have eD : D = D' := by
      have : (g * g') * D = (g * g') * D' := by rw [hD, hD'] at s1; grind
      exact Int.eq_of_mul_eq_mul_left (by have := Int.mul_pos (show 0 < g by omega) (show 0 < g' by omega); omega) this
    subst eD
    have cancel : ∀ u v : Int, (g * g' * D) * u = (g * g' * D) * v → u = v := fun u v h =>
      Int.eq_of_mul_eq_mul_left (by have := Int.mul_pos (Int.mul_pos (show 0 < g by omega) (show 0 < g' by omega)) (show 0 < D by omega); omega) h
    have eX : X = X' := cancel _ _ (by rw [hX, hX', hD, hD'] at e1; grind)
    have eY : Y = Y' := cancel _ _ (by rw [hY, hY', hD, hD'] at e2; grind)
    rw [eX, eY]
theorem cr_on (f g : H3) : Geo.val f (crP f g).a (crP f g).b (crP f g).c = 0 := by
  unfold crP Geo.val; split <;> simp only <;> grind
theorem cr_pos {f g : H3} (h : 0 < Geo.tn f g) : (crP f g).c = Geo.tn f g ∧ ∀ y, Geo.val y (crP f g).a (crP f g).b (crP f g).c = Geo.D f g y := by
  unfold Geo.tn at h
  unfold crP
  rw [if_neg (by grind)]
  refine ⟨by unfold Geo.tn; simp only; grind, fun y => ?_⟩
  unfold Geo.val Geo.D; simp only; grind
theorem cr_neg {f g : H3} (h : 0 < Geo.tn g f) : (crP f g).c = Geo.tn g f ∧ ∀ y, Geo.val y (crP f g).a (crP f g).b (crP f g).c = Geo.D g f y := by
  unfold Geo.tn at h
  unfold crP
  rw [if_pos (by grind)]
  refine ⟨by unfold Geo.tn; simp only; grind, fun y => ?_⟩
  unfold Geo.val Geo.D; simp only; grind
theorem hol_val (p h : H3) : holB p h = true ↔ Geo.val h p.a p.b p.c ≤ 0 := by
  unfold holB Geo.val; rw [decide_eq_true_eq]; omega
/-- the edges as the model finds them, up to place k -/
def outE (L : List H3) (k : Nat) : List H3 := ((List.range k).filter (fun i => edgB L i)).map (atI L)
def ieB (L : List H3) (x : H3) : Bool := (List.range L.length).any (fun i => decide (atI L i = x) && edgB L i)
theorem atI_get {L : List H3} {i : Nat} (h : i < L.length) : atI L i = L[i] := by unfold atI; rw [List.getElem?_eq_getElem h]; rfl
theorem ie_at {L : List H3} (nd : L.Nodup) {k : Nat} (h : k < L.length) : ieB L (atI L k) = edgB L k := by
  rw [Bool.eq_iff_iff]
  unfold ieB
  rw [List.any_eq_true]
  constructor
  · rintro ⟨i, hi, hh⟩
    rw [List.mem_range] at hi
    rw [Bool.and_eq_true, decide_eq_true_eq] at hh
    have e := hh.1
    rw [atI_get hi, atI_get h] at e
    have : i = k := (List.getElem_inj nd).1 e
    rw [← this]; exact hh.2
  · intro e
    exact ⟨k, List.mem_range.2 h, by rw [e]; simp⟩
theorem range_map (L : List H3) : (List.range L.length).map (atI L) = L := by
  apply List.ext_getElem
  · simp
  · intro i h1 h2
    simp only [List.getElem_map, List.getElem_range]
    exact atI_get h2
theorem out_filter {L : List H3} (nd : L.Nodup) : outE L L.length = L.filter (ieB L) := by
  have e : L.filter (ieB L) = ((List.range L.length).map (atI L)).filter (ieB L) := by rw [range_map]
  rw [e, List.filter_map]
  unfold outE
  congr 1
  apply List.filter_congr
  intro i hi
  rw [List.mem_range] at hi
  exact (ie_at nd hi).symm
theorem mem_atI {L : List H3} {x : H3} (h : x ∈ L) : ∃ i, i < L.length ∧ atI L i = x := by
  obtain ⟨i, hi, rfl⟩ := List.getElem_of_mem h
  exact ⟨i, hi, atI_get hi⟩
theorem gd_parts {L : List H3} (hL : ∀ x ∈ L, okB x = true) {k i : Nat} (hk : k < L.length) (hi : i < L.length) (g : gdI L k i = true) : i ≠ k ∧ PtB (ptI L k i) ∧ frmB (ptI L k i) = true ∧ ∀ x ∈ L, holB (ptI L k i) x = true := by
  unfold gdI insB at g
  simp only [Bool.and_eq_true, decide_eq_true_eq] at g
  refine ⟨g.1, ?_, g.2.1, List.all_eq_true.1 g.2.2⟩
  unfold ptI
  rw [atI_get hk, atI_get hi]
  exact cr_pt (hL _ (List.getElem_mem _)) (hL _ (List.getElem_mem _))
theorem sound {H L : List H3} (s : Geo.Srt H L) (hH : ∀ x ∈ H, okB x = true) : ∀ x ∈ L, ieB L x = true → Geo.Two H x := by
  intro x hx hi
  have hL : ∀ x ∈ L, okB x = true := fun y hy => hH y (s.2.1 y hy)
  obtain ⟨k, hk, rfl⟩ := mem_atI hx
  rw [ie_at (Geo.nodup_of s.1) hk] at hi
  unfold edgB at hi
  rw [List.any_eq_true] at hi
  obtain ⟨i, hi, hh⟩ := hi
  rw [Bool.and_eq_true, List.any_eq_true] at hh
  obtain ⟨gi, j, hj, hh⟩ := hh
  rw [Bool.and_eq_true] at hh
  rw [List.mem_range] at hi hj
  obtain ⟨_, pi, fi, ai⟩ := gd_parts hL hk hi gi
  obtain ⟨_, pj, fj, aj⟩ := gd_parts hL hk hj hh.1
  have all : ∀ p : H3, 0 < p.c → (∀ x ∈ L, holB p x = true) → ∀ g ∈ H, Geo.val g p.a p.b p.c ≤ 0 := by
    intro p hp a g hg
    obtain ⟨y, hy, k1, k2⟩ := s.2.2 g hg
    exact Geo.tight_val (okB_nz (hL y hy)) (okB_nz (hH g hg)) k1 k2 (by omega) ((hol_val p y).1 (a y hy))
  have wi := (has_of pi fi).2
  have wj := (has_of pj fj).2
  exact ⟨(ptI L k i).a, (ptI L k i).b, (ptI L k i).c, (ptI L k j).a, (ptI L k j).b, (ptI L k j).c, by omega, by omega, cr_on _ _, cr_on _ _, all _ (by omega) ai, all _ (by omega) aj, (dif_iff pi pj fi fj).1 hh.2⟩
theorem compl {H L : List H3} (s : Geo.Srt H L) (hH : ∀ x ∈ H, okB x = true) (hF : ∀ x ∈ Geo.frame, x ∈ H) : ∀ x ∈ L, Geo.Crs H L x → ieB L x = true := by
  intro x hx ⟨f, g, hf, hg, nf, ng, t1, t2, d, a⟩
  have hL : ∀ x ∈ L, okB x = true := fun y hy => hH y (s.2.1 y hy)
  obtain ⟨k, hk, rfl⟩ := mem_atI hx
  obtain ⟨i, hi, rfl⟩ := mem_atI hf
  obtain ⟨j, hj, rfl⟩ := mem_atI hg
  rw [ie_at (Geo.nodup_of s.1) hk]
  have ik : i ≠ k := fun e => nf (by rw [e])
  have jk : j ≠ k := fun e => ng (by rw [e])
  have c1 := cr_neg t1
  have c2 := cr_pos t2
  have good : ∀ p : H3, 0 < p.c → (∀ y ∈ H, Geo.val y p.a p.b p.c ≤ 0) → insB L p = true ∧ frmB p = true := by
    intro p hp v
    have v1 := v ⟨1, 0, 1000⟩ (hF _ (by simp [Geo.frame]))
    have v2 := v ⟨0, 1, 1000⟩ (hF _ (by simp [Geo.frame]))
    have v3 := v ⟨-1, 0, 1000⟩ (hF _ (by simp [Geo.frame]))
    have v4 := v ⟨0, -1, 1000⟩ (hF _ (by simp [Geo.frame]))
    unfold Geo.val at v1 v2 v3 v4
    simp only at v1 v2 v3 v4
    have fr : frmB p = true := by unfold frmB; simp only [Bool.and_eq_true, decide_eq_true_eq]; omega
    refine ⟨?_, fr⟩
    unfold insB
    rw [fr, Bool.true_and, List.all_eq_true]
    exact fun y hy => (hol_val p y).2 (v y (s.2.1 y hy))
  obtain ⟨i1, f1⟩ := good (crP (atI L k) (atI L i)) (by rw [c1.1]; exact t1) (fun y hy => by rw [c1.2]; exact (a y hy).1)
  obtain ⟨i2, f2⟩ := good (crP (atI L k) (atI L j)) (by rw [c2.1]; exact t2) (fun y hy => by rw [c2.2]; exact (a y hy).2)
  have okk : ∀ m, m < L.length → okB (atI L m) = true := fun m hm => by rw [atI_get hm]; exact hL _ (List.getElem_mem _)
  have p1 := cr_pt (okk k hk) (okk i hi)
  have p2 := cr_pt (okk k hk) (okk j hj)
  have dd : difB (crP (atI L k) (atI L i)) (crP (atI L k) (atI L j)) = true := by
    rw [dif_iff p1 p2 f1 f2]
    rintro ⟨e1, e2⟩
    have v1 := c1.2 (atI L j)
    have v2 := c2.2 (atI L j)
    rw [Geo.D_same2] at v2
    have w1 : 0 < (crP (atI L k) (atI L i)).c := by rw [c1.1]; exact t1
    have w2 : 0 < (crP (atI L k) (atI L j)).c := by rw [c2.1]; exact t2
    generalize crP (atI L k) (atI L i) = p at *
    generalize crP (atI L k) (atI L j) = q at *
    unfold Geo.val at v1 v2
    have : q.c * Geo.D (atI L i) (atI L k) (atI L j) = 0 := by
      rw [← v1]
      have : q.c * ((atI L j).a * p.a + (atI L j).b * p.b - (atI L j).c * p.c) = p.c * ((atI L j).a * q.a + (atI L j).b * q.b - (atI L j).c * q.c) := by grind
      rw [this, v2, Int.mul_zero]
    rcases Int.mul_eq_zero.1 this with h | h <;> omega
  unfold edgB
  rw [List.any_eq_true]
  refine ⟨i, List.mem_range.2 hi, ?_⟩
  rw [Bool.and_eq_true, List.any_eq_true]
  refine ⟨?_, j, List.mem_range.2 hj, ?_⟩
  · unfold gdI ptI; rw [i1]; simp [ik]
  · rw [Bool.and_eq_true]
    refine ⟨?_, dd⟩
    unfold gdI ptI; rw [i2]; simp [jk]
/-- the model's region: the edges of all half planes and the frame, none if there are fewer than three -/
def modL (hs : List H3) : List H3 := if (outE (Geo.srt (hs ++ Geo.frame)) (Geo.srt (hs ++ Geo.frame)).length).length < 3 then [] else outE (Geo.srt (hs ++ Geo.frame)) (Geo.srt (hs ++ Geo.frame)).length
theorem okB_gc {h : H3} (k : okB h = true) : Geo.gc h = 1 := by
  obtain ⟨_, _, _, _, _, _, _, h8⟩ := (okH_iff _ _ _).1 k
  exact h8
theorem mod_of {hs E : List H3} (hok : hs.all okB = true) (i : Geo.Inv E (hs ++ Geo.frame)) : modL hs = E := by
  have hH : ∀ x ∈ hs ++ Geo.frame, okB x = true := by
    intro x hx
    rcases List.mem_append.1 hx with h | h
    · exact List.all_eq_true.1 hok x h
    · exact frame_ok x h
  have s := Geo.srt_srt (hs ++ Geo.frame) fun x hx => okB_nz (hH x hx)
  have nH : ∀ x ∈ hs ++ Geo.frame, Geo.nz x := fun x hx => okB_nz (hH x hx)
  unfold modL
  rw [out_filter (Geo.nodup_of s.1)]
  rcases i with ⟨P, sE, c⟩ | ⟨rfl, f⟩
  · have e := Geo.edges_eq P sE c s nH (fun x hx => okB_gc (hH x hx)) (ieB (Geo.srt (hs ++ Geo.frame))) (sound s hH) (compl s hH (fun x hx => by simp [hx]))
    rw [e, if_neg (by have := P.1; omega)]
  · have e := Geo.edges_flat f s nH (ieB (Geo.srt (hs ++ Geo.frame))) (sound s hH)
    rw [if_pos e]
theorem Inv_swap {E H H' : List H3} (h : Geo.Inv E H) (e : ∀ x, x ∈ H ↔ x ∈ H') : Geo.Inv E H' := by
  rcases h with ⟨P, s, c⟩ | ⟨r, f⟩
  · exact Or.inl ⟨P, fun x hx => (e x).1 (s x hx), fun p hp g hg => c p hp g ((e g).2 hg)⟩
  · exact Or.inr ⟨r, f.mono fun g hg => (e g).1 hg⟩
/-- the program's region and the model's are the same -/
theorem mod_reg {hs : List H3} (hok : hs.all okB = true) : modL hs = regL hs :=
  mod_of hok (Inv_swap (regL_inv hok) fun x => by simp only [List.mem_append]; exact Or.comm)

theorem hs_cells {w : World} {ad : Addr} {hs : List H3} (h : HsAt w (some ad) hs) : ∀ j u, (flat hs)[j]? = some u → w.cell? (ad.add j) = some u := by
  intro j u hu
  have hj : j < hs.length * 3 := by have := (List.getElem?_eq_some_iff.1 hu).1; rwa [flat_len] at this
  obtain ⟨x, hx⟩ : ∃ x, hs[j / 3]? = some x := ⟨_, List.getElem?_eq_getElem (by omega)⟩
  obtain ⟨g, o, e, t1, t2, t3⟩ := h _ _ hx
  obtain rfl := Option.some.inj e
  obtain ⟨f1, f2, f3⟩ := flat_at hx
  rw [addr_add]
  rcases (by omega : j % 3 = 0 ∨ j % 3 = 1 ∨ j % 3 = 2) with r | r | r
  · rw [show j = j / 3 * 3 by omega] at hu ⊢
    rw [f1] at hu; rw [← Option.some.inj hu]; exact t1
  · rw [show j = j / 3 * 3 + 1 by omega] at hu ⊢
    rw [f2] at hu; rw [← Option.some.inj hu, ← Nat.add_assoc]; exact t2
  · rw [show j = j / 3 * 3 + 2 by omega] at hu ⊢
    rw [f3] at hu; rw [← Option.some.inj hu, ← Nat.add_assoc]; exact t3
theorem out_next (L : List H3) (k : Nat) : outE L (k + 1) = outE L k ++ (if edgB L k = true then [atI L k] else []) := by
  unfold outE
  rw [List.range_succ, List.filter_append, List.map_append]
  cases e : edgB L k <;> simp [e]
theorem out_len (L : List H3) (k : Nat) : (outE L k).length ≤ k := by
  unfold outE
  rw [List.length_map]
  have := List.length_filter_le (fun i => edgB L i) (List.range k)
  simpa using this
def MakW (w : World) (hs : List H3) (e : Ending) (w' : World) : Prop := ∃ ao cp, e = .returned (.agg #[.slice ao hs.length cp]) ∧ w'.ownsRow w.heap.size 60 3 (.slice ao hs.length cp) hs.length (flat hs) ∧ Below w.heap.size w w'
theorem MakW.of {w w' : World} {hs : List H3} {ao : Option Addr} {m cp : Nat} (ho : w'.ownsRow w.heap.size 60 3 (.slice ao m cp) m (flat hs)) (hb : Below w.heap.size w w') : MakW w hs (.returned (.agg #[.slice ao m cp])) w' := by
  obtain rfl := (own3_view ho).1
  exact ⟨ao, cp, rfl, ho, hb⟩
theorem own3_empty' (w : World) {B b : Nat} (hb : w.heap.size = b) (h : B ≤ b) : (w.alloc (.cells #[] 60)).ownsRow B 60 3 (.slice (some ⟨b, 0, none⟩) 0 0) 0 (flat []) := by
  subst hb; exact own3_empty w B h
set_option maxRecDepth 100000 in
set_option maxHeartbeats 4000000 in
/-- l05Make behind its first statement: the sorted list is there -/
theorem spec_make (a : Option Addr) (n cap : Nat) (hs : List H3) (w : World) (hl : hs.length = n) (hn : n ≤ 800) (hok : hs.all okB = true) (hnil : a = none → n = 0 ∧ cap = 0) (hA : HsAt w a hs) :
    Calls Try.prog 97 #[.slice a n cap] w (MakW w (modL hs)) := by
  obtain ⟨i0, hi, hz0, hz1, hz2⟩ := info_parts Try.info34
  have HL := Lib.hid hl
  have HA := Lib.hid hA
  have HOK := Lib.hid hok
  have HAL := Lib.hid (show (hs ++ Geo.frame).all okB = true by rw [List.all_append, hok]; decide)
  clear hl hA hok
  cases a with
  | none =>
    obtain ⟨rfl, rfl⟩ := hnil rfl
    have hse : hs = [] := List.eq_nil_of_length_eq_zero HL.out
    subst hse
    go_enter Try.func97, Try.ntmps97
    go_wp2_with (at_builtin; refine wpList_append_own_none rfl _ _ 54 rfl (w.heap.size + 1) 60 i0 3 Try.underlying54 hi (.slice (some ⟨w.heap.size + 1, 0, none⟩) 0 0) 0 (flat []) rfl (own3_empty' _ (by simp) (by simp)) rfl ?_)
    have bV := below_one w (.cells #[.slice none 0 0] 56)
    have q2 : (w.alloc (.cells #[.slice none 0 0] 56)).cell? ⟨w.heap.size, 0, none⟩ = some (.slice none 0 0) := by simp
    have f2 : (w.alloc (.cells #[.slice none 0 0] 56)).frozen? ⟨w.heap.size, 0, none⟩ = false := by simp
    have hVs : (w.alloc (.cells #[.slice none 0 0] 56)).heap.size = w.heap.size + 1 := by simp
    have b1 : Below (w.heap.size + 1) (w.alloc (.cells #[.slice none 0 0] 56)) ((w.alloc (.cells #[.slice none 0 0] 56)).alloc (.cells #[] 60)) := (below_one (w.alloc (.cells #[.slice none 0 0] 56)) (.cells #[] 60)).mono (by simp)
    have O1 := Lib.hid (own3_empty' (w.alloc (.cells #[.slice none 0 0] 56)) (B := w.heap.size + 1) hVs (Nat.le_refl _))
    have HVS := Lib.hid hVs
    clear hVs
    generalize (w.alloc (.cells #[.slice none 0 0] 56)).alloc (.cells #[] 60) = w1 at *
    generalize w.alloc (.cells #[.slice none 0 0] 56) = V at *
    refine (spec_frame w1).mono ?_
    rintro e w2 ⟨a2, c2, rfl, ho2, bl2⟩
    obtain ⟨g2, c2', e2⟩ := own_row ho2 (by omega)
    simp only [Value.slice.injEq, true_and] at e2
    obtain ⟨rfl, rfl⟩ := e2
    have H1 := Lib.hid (own_below O1.out bl2)
    have HC2 := Lib.hid (hs_cells (own_hs ho2))
    have b2 := b1.trans (bl2.mono (by have := b1.size; have := HVS.out; omega))
    clear ho2 bl2 O1 b1
    go_wp2_with (at_builtin; refine wpList_append_own_at _ rfl _ _ 54 rfl (w.heap.size + 1) 60 i0 (.agg #[.int .i64 0, .int .i64 0, .int .i64 0]) 3 24 Try.underlying54 hi hz0 hz1 hz2 rfl (by decide) (.slice (some ⟨w.heap.size + 1, 0, none⟩) 0 0) 0 (flat []) rfl H1.out ⟨g2, 0, none⟩ 4 c2 (flat Geo.frame) rfl (by rw [flat_len]; rfl) HC2.out (flat_one _) (by unfold maxLen; omega) (by omega) (by have := b2.size; have := HVS.out; omega) ?_; intro v3 w3 ho3 hg3 hn3 _; have b3 : Below (w.heap.size + 1) V w3 := b2.grown hg3 (by have := b2.size; have := HVS.out; omega) (fun p hp => own_base_le H1.out hp); rw [← flat_app, Nat.zero_add] at ho3; obtain ⟨a3, c3, e3⟩ := own_slice ho3; subst e3; have HQ3 := Lib.hid ho3; clear ho3 hg3 hn3 b2 H1 HC2)
    refine (spec_sorted a3 4 c3 ([] ++ Geo.frame) w3 rfl (by omega) HAL.out (own_hs HQ3.out)).mono ?_
    rintro e w4 ⟨a4, c4, rfl, ho4, bl4⟩
    have b4 := b3.trans (bl4.mono (by have := b3.size; have := HVS.out; omega))
    have hml : (Geo.srt ([] ++ Geo.frame)).length ≤ 4 := srt_len ([] ++ Geo.frame)
    have HLO := Lib.hid (srt_ok HAL.out)
    have HMD := Lib.hid (show modL [] = if (outE (Geo.srt ([] ++ Geo.frame)) (Geo.srt ([] ++ Geo.frame)).length).length < 3 then [] else outE (Geo.srt ([] ++ Geo.frame)) (Geo.srt ([] ++ Geo.frame)).length from rfl)
    have H4 := Lib.hid ho4
    clear ho4 bl4 b3 HQ3
    generalize Geo.srt ([] ++ Geo.frame) = L at *
    obtain ⟨m, hm⟩ : ∃ m, L.length = m := ⟨_, rfl⟩
    have HM := Lib.hid hm
    rw [hm] at hml H4 HMD ⊢
    clear hm
    go_wp2
    have H5 := Lib.hid (own3_empty w4 w4.heap.size (Nat.le_refl _))
    have b5 := below_one w4 (.cells #[] 60)
    go_loopw [4, 16] (fun v i wr => ∃ k j g cp : Nat, k ≤ m ∧ i = .int .i64 k ∧ v = .slice (some ⟨g, 0, none⟩) j cp ∧ wr.ownsRow w4.heap.size 60 3 (.slice (some ⟨g, 0, none⟩) j cp) j (flat (outE L k)) ∧ Below w4.heap.size w4 wr) (fun _ i _ => m - (intOf i).toNat)
    case atStart => exact ⟨0, 0, w4.heap.size, 0, Nat.zero_le _, rfl, rfl, H5.out, b5⟩
    case round =>
      obtain ⟨k, j, g, cp, hk, rfl, rfl, hov, hbel⟩ := hrel
      have hj := (own3_view hov).1
      have hj2 := out_len L k
      rw [hj] at hj2
      have H0 := Lib.hid hov
      clear hov hj
      by_cases hlt : k < m
      · obtain ⟨⟨xa, xb, xc⟩, hx⟩ : ∃ x, L[k]? = some x := ⟨_, List.getElem?_eq_getElem (by rw [HM.out]; exact hlt)⟩
        have HON := Lib.hid (out_next L k)
        rw [atI_of hx] at HON
        obtain ⟨g', o', rfl, hcx⟩ := (own_hs H4.out) k _ hx
        obtain ⟨t1, t2, t3⟩ := hcx.to hbel
        have l1 := block_lt_of_cell t1
        simp only at t1 t2 t3 l1
        have HE := Lib.hid (fun W (h : Below w4.heap.size w4 W) => spec_edge (some ⟨g', o', none⟩) m c4 k L W HM.out (by omega) hlt HLO.out ((own_hs H4.out).below h))
        clear hx hcx
        have bX := hbel.trans ((below_one wr (.cells #[.int .i64 xa, .int .i64 xb, .int .i64 xc] 60)).mono hbel.size)
        go_wp2_with fail
        refine (HE.out _ bX).mono ?_
        rintro e w6 ⟨rfl, bl6⟩
        have b6 := bX.trans (bl6.mono bX.size)
        have r6 := (tri_new wr (.int .i64 xa) (.int .i64 xb) (.int .i64 xc) 60).to bl6
        have l6 := block_lt_of_cell r6.1
        simp only at l6
        have H6 := Lib.hid (own_below (own_below H0.out (below_one wr (.cells #[.int .i64 xa, .int .i64 xb, .int .i64 xc] 60))) bl6)
        obtain ⟨d1, d2, d3⟩ := r6
        clear t1 t2 t3 bX bl6 HE H0
        cases he : edgB L k with
        | false =>
          rw [he] at HON
          clear he
          go_wp2
          go_roundw
          case rel => exact ⟨k + 1, j, g, cp, by omega, by go_num, rfl, by rw [HON.out]; simpa using H6.out, b6⟩
          case measure => simp [intOf]; omega
        | true =>
          rw [he] at HON
          clear he
          go_wp2_with (at_builtin; refine wpList_append_lies _ rfl _ _ 54 rfl w4.heap.size 60 i0 (.agg #[.int .i64 0, .int .i64 0, .int .i64 0]) 3 24 Try.underlying54 hi hz0 hz1 hz2 rfl (by decide) (.slice (some ⟨g, 0, none⟩) j cp) j _ rfl (own_below H6.out (below_one _ _)) ⟨w6.heap.size, 0, none⟩ 1 1 [.int .i64 xa, .int .i64 xb, .int .i64 xc] rfl rfl (World.news_of_block (cs := #[.int .i64 xa, .int .i64 xb, .int .i64 xc]) (t := 60) (fr := (0, 0)) (heap_alloc_new w6 _)) (by simp [Value.oneCell']) (by omega) (by unfold maxLen; omega) (by omega) (by have := b6.size; simp; omega) _ rfl ?_; intro gg cap' w7 hown7 hgrow hat hlt7; have b7 : Below w4.heap.size w4 w7 := (Below.grown (b6.trans ((below_one _ _).mono b6.size)) hgrow (by have := b6.size; simp; omega) (fun p hp => own_base_le H6.out hp)); have H7 := Lib.hid hown7; clear hown7 hgrow hat)
          go_roundw
          case rel => exact ⟨k + 1, j + 1, gg, cap', by omega, by go_num, rfl, by rw [HON.out, flat_app]; exact H7.out, b7⟩
          case measure => simp [intOf]; omega
      · obtain rfl : k = m := by omega
        have b8 := b4.trans (hbel.mono (by have := b4.size; have := HVS.out; omega))
        have p8 : wr.cell? ⟨w.heap.size, 0, none⟩ = some (.slice none 0 0) := by rw [b8.cell (by show w.heap.size < w.heap.size + 1; omega)]; exact q2
        have g8 : wr.frozen? ⟨w.heap.size, 0, none⟩ = false := by rw [b8.frozen (by show w.heap.size < w.heap.size + 1; omega)]; exact f2
        have hov := (own3_view H0.out).1
        have bw : Below w.heap.size w wr := bV.trans (b8.mono (by omega))
        have hz4 : w.heap.size < w4.heap.size := by have := b4.size; have := HVS.out; omega
        by_cases hj3 : j < 3
        · have HR := Lib.hid (show modL [] = [] by rw [HMD.out, if_pos (by rw [hov]; exact hj3)])
          clear hov
          go_wp2
          all_goals
            rw [HR.out]
            exact bodyPost_ret (v := .agg #[.slice none 0 0]) (by simp [results, Try.results97, go_sem, p8]) rfl (MakW.of own3_none (bw.setCell (Nat.le_refl _) _))
        · have HR := Lib.hid (show modL [] = outE L k by rw [HMD.out, if_neg (by rw [hov]; exact hj3)])
          have HW := Lib.hid (MakW.of (w := w) (own_base (own_far (p := ⟨w.heap.size, 0, none⟩) H0.out hz4 (.slice (some ⟨g, 0, none⟩) j cp)) (Nat.le_of_lt hz4)) (bw.setCell (Nat.le_refl _) _))
          clear hov
          go_wp2
          rw [HR.out]
          exact bodyPost_ret (v := .agg #[.slice (some ⟨g, 0, none⟩) j cp]) (by simp [results, Try.results97, go_sem, p8]) rfl HW.out
  | some ad =>
    clear hnil
    go_enter Try.func97, Try.ntmps97
    go_wp2_with (at_builtin; refine wpList_append_own_at _ rfl _ _ 54 rfl (w.heap.size + 1) 60 i0 (.agg #[.int .i64 0, .int .i64 0, .int .i64 0]) 3 24 Try.underlying54 hi hz0 hz1 hz2 rfl (by decide) (.slice (some ⟨w.heap.size + 1, 0, none⟩) 0 0) 0 (flat []) rfl (own3_empty' _ (by simp) (by simp)) ad n cap (flat hs) rfl (by rw [flat_len, HL.out]) (hs_cells (HA.out.below (below_bx2 (below_one _ _) _))) (flat_one _) (by unfold maxLen; omega) (by omega) (by simp) ?_; intro v1 w1 ho1 hg1 hn1 _)
    have bV := below_one w (.cells #[.slice none 0 0] 56)
    have q2 : (w.alloc (.cells #[.slice none 0 0] 56)).cell? ⟨w.heap.size, 0, none⟩ = some (.slice none 0 0) := by simp
    have f2 : (w.alloc (.cells #[.slice none 0 0] 56)).frozen? ⟨w.heap.size, 0, none⟩ = false := by simp
    have hVs : (w.alloc (.cells #[.slice none 0 0] 56)).heap.size = w.heap.size + 1 := by simp
    have b1 : Below (w.heap.size + 1) (w.alloc (.cells #[.slice none 0 0] 56)) w1 := (Below.grown ((below_one (w.alloc (.cells #[.slice none 0 0] 56)) (.cells #[] 60)).mono (by simp)) hg1 (by simp) (fun p hp => by simp [Value.ownBlock] at hp; omega))
    rw [← flat_app, Nat.zero_add] at ho1
    obtain ⟨a1, c1, e1⟩ := own_slice ho1
    subst e1
    have O1 := Lib.hid (show w1.ownsRow (w.heap.size + 1) 60 3 (.slice a1 n c1) n (flat hs) from ho1)
    have HVS := Lib.hid hVs
    clear ho1 hg1 hn1 hVs
    generalize w.alloc (.cells #[.slice none 0 0] 56) = V at *
    refine (spec_frame w1).mono ?_
    rintro e w2 ⟨a2, c2, rfl, ho2, bl2⟩
    obtain ⟨g2, c2', e2⟩ := own_row ho2 (by omega)
    simp only [Value.slice.injEq, true_and] at e2
    obtain ⟨rfl, rfl⟩ := e2
    have H1 := Lib.hid (own_below O1.out bl2)
    have HC2 := Lib.hid (hs_cells (own_hs ho2))
    have b2 := b1.trans (bl2.mono (by have := b1.size; have := HVS.out; omega))
    clear ho2 bl2 O1 b1
    go_wp2_with (at_builtin; refine wpList_append_own_at _ rfl _ _ 54 rfl (w.heap.size + 1) 60 i0 (.agg #[.int .i64 0, .int .i64 0, .int .i64 0]) 3 24 Try.underlying54 hi hz0 hz1 hz2 rfl (by decide) (.slice a1 n c1) n (flat hs) rfl H1.out ⟨g2, 0, none⟩ 4 c2 (flat Geo.frame) rfl (by rw [flat_len]; rfl) HC2.out (flat_one _) (by unfold maxLen; omega) (by omega) (by have := b2.size; have := HVS.out; omega) ?_; intro v3 w3 ho3 hg3 hn3 _; have b3 : Below (w.heap.size + 1) V w3 := b2.grown hg3 (by have := b2.size; have := HVS.out; omega) (fun p hp => own_base_le H1.out hp); rw [← flat_app] at ho3; obtain ⟨a3, c3, e3⟩ := own_slice ho3; subst e3; have HQ3 := Lib.hid ho3; clear ho3 hg3 hn3 b2 H1 HC2)
    refine (spec_sorted a3 (n + 4) c3 (hs ++ Geo.frame) w3 (by rw [List.length_append, HL.out]; rfl) (by omega) HAL.out (own_hs HQ3.out)).mono ?_
    rintro e w4 ⟨a4, c4, rfl, ho4, bl4⟩
    have b4 := b3.trans (bl4.mono (by have := b3.size; have := HVS.out; omega))
    have hml := srt_len (hs ++ Geo.frame)
    rw [List.length_append, HL.out, show Geo.frame.length = 4 from rfl] at hml
    have HLO := Lib.hid (srt_ok HAL.out)
    have HMD := Lib.hid (show modL hs = if (outE (Geo.srt (hs ++ Geo.frame)) (Geo.srt (hs ++ Geo.frame)).length).length < 3 then [] else outE (Geo.srt (hs ++ Geo.frame)) (Geo.srt (hs ++ Geo.frame)).length from rfl)
    have H4 := Lib.hid ho4
    clear ho4 bl4 b3 HQ3
    generalize Geo.srt (hs ++ Geo.frame) = L at *
    obtain ⟨m, hm⟩ : ∃ m, L.length = m := ⟨_, rfl⟩
    have HM := Lib.hid hm
    rw [hm] at hml H4 HMD ⊢
    clear hm
    go_wp2
    have H5 := Lib.hid (own3_empty w4 w4.heap.size (Nat.le_refl _))
    have b5 := below_one w4 (.cells #[] 60)
    go_loopw [4, 16] (fun v i wr => ∃ k j g cp : Nat, k ≤ m ∧ i = .int .i64 k ∧ v = .slice (some ⟨g, 0, none⟩) j cp ∧ wr.ownsRow w4.heap.size 60 3 (.slice (some ⟨g, 0, none⟩) j cp) j (flat (outE L k)) ∧ Below w4.heap.size w4 wr) (fun _ i _ => m - (intOf i).toNat)
    case atStart => exact ⟨0, 0, w4.heap.size, 0, Nat.zero_le _, rfl, rfl, H5.out, b5⟩
    case round =>
      obtain ⟨k, j, g, cp, hk, rfl, rfl, hov, hbel⟩ := hrel
      have hj := (own3_view hov).1
      have hj2 := out_len L k
      rw [hj] at hj2
      have H0 := Lib.hid hov
      clear hov hj
      by_cases hlt : k < m
      · obtain ⟨⟨xa, xb, xc⟩, hx⟩ : ∃ x, L[k]? = some x := ⟨_, List.getElem?_eq_getElem (by rw [HM.out]; exact hlt)⟩
        have HON := Lib.hid (out_next L k)
        rw [atI_of hx] at HON
        obtain ⟨g', o', rfl, hcx⟩ := (own_hs H4.out) k _ hx
        obtain ⟨t1, t2, t3⟩ := hcx.to hbel
        have l1 := block_lt_of_cell t1
        simp only at t1 t2 t3 l1
        have HE := Lib.hid (fun W (h : Below w4.heap.size w4 W) => spec_edge (some ⟨g', o', none⟩) m c4 k L W HM.out (by omega) hlt HLO.out ((own_hs H4.out).below h))
        clear hx hcx
        have bX := hbel.trans ((below_one wr (.cells #[.int .i64 xa, .int .i64 xb, .int .i64 xc] 60)).mono hbel.size)
        go_wp2_with fail
        refine (HE.out _ bX).mono ?_
        rintro e w6 ⟨rfl, bl6⟩
        have b6 := bX.trans (bl6.mono bX.size)
        have r6 := (tri_new wr (.int .i64 xa) (.int .i64 xb) (.int .i64 xc) 60).to bl6
        have l6 := block_lt_of_cell r6.1
        simp only at l6
        have H6 := Lib.hid (own_below (own_below H0.out (below_one wr (.cells #[.int .i64 xa, .int .i64 xb, .int .i64 xc] 60))) bl6)
        obtain ⟨d1, d2, d3⟩ := r6
        clear t1 t2 t3 bX bl6 HE H0
        cases he : edgB L k with
        | false =>
          rw [he] at HON
          clear he
          go_wp2
          go_roundw
          case rel => exact ⟨k + 1, j, g, cp, by omega, by go_num, rfl, by rw [HON.out]; simpa using H6.out, b6⟩
          case measure => simp [intOf]; omega
        | true =>
          rw [he] at HON
          clear he
          go_wp2_with (at_builtin; refine wpList_append_lies _ rfl _ _ 54 rfl w4.heap.size 60 i0 (.agg #[.int .i64 0, .int .i64 0, .int .i64 0]) 3 24 Try.underlying54 hi hz0 hz1 hz2 rfl (by decide) (.slice (some ⟨g, 0, none⟩) j cp) j _ rfl (own_below H6.out (below_one _ _)) ⟨w6.heap.size, 0, none⟩ 1 1 [.int .i64 xa, .int .i64 xb, .int .i64 xc] rfl rfl (World.news_of_block (cs := #[.int .i64 xa, .int .i64 xb, .int .i64 xc]) (t := 60) (fr := (0, 0)) (heap_alloc_new w6 _)) (by simp [Value.oneCell']) (by omega) (by unfold maxLen; omega) (by omega) (by have := b6.size; simp; omega) _ rfl ?_; intro gg cap' w7 hown7 hgrow hat hlt7; have b7 : Below w4.heap.size w4 w7 := (Below.grown (b6.trans ((below_one _ _).mono b6.size)) hgrow (by have := b6.size; simp; omega) (fun p hp => own_base_le H6.out hp)); have H7 := Lib.hid hown7; clear hown7 hgrow hat)
          go_roundw
          case rel => exact ⟨k + 1, j + 1, gg, cap', by omega, by go_num, rfl, by rw [HON.out, flat_app]; exact H7.out, b7⟩
          case measure => simp [intOf]; omega
      · obtain rfl : k = m := by omega
        have b8 := b4.trans (hbel.mono (by have := b4.size; have := HVS.out; omega))
        have p8 : wr.cell? ⟨w.heap.size, 0, none⟩ = some (.slice none 0 0) := by rw [b8.cell (by show w.heap.size < w.heap.size + 1; omega)]; exact q2
        have g8 : wr.frozen? ⟨w.heap.size, 0, none⟩ = false := by rw [b8.frozen (by show w.heap.size < w.heap.size + 1; omega)]; exact f2
        have hov := (own3_view H0.out).1
        have bw : Below w.heap.size w wr := bV.trans (b8.mono (by omega))
        have hz4 : w.heap.size < w4.heap.size := by have := b4.size; have := HVS.out; omega
        by_cases hj3 : j < 3
        · have HR := Lib.hid (show modL hs = [] by rw [HMD.out, if_pos (by rw [hov]; exact hj3)])
          clear hov
          go_wp2
          rw [HR.out]
          exact bodyPost_ret (v := .agg #[.slice none 0 0]) (by simp [results, Try.results97, go_sem, p8]) rfl (MakW.of own3_none (bw.setCell (Nat.le_refl _) _))
        · have HR := Lib.hid (show modL hs = outE L k by rw [HMD.out, if_neg (by rw [hov]; exact hj3)])
          have HW := Lib.hid (MakW.of (w := w) (own_base (own_far (p := ⟨w.heap.size, 0, none⟩) H0.out hz4 (.slice (some ⟨g, 0, none⟩) j cp)) (Nat.le_of_lt hz4)) (bw.setCell (Nat.le_refl _) _))
          clear hov
          go_wp2
          rw [HR.out]
          exact bodyPost_ret (v := .agg #[.slice (some ⟨g, 0, none⟩) j cp]) (by simp [results, Try.results97, go_sem, p8]) rfl HW.out

set_option maxHeartbeats 1600000 in
theorem spec_fit (a : Option Addr) (n cap : Nat) (hs : List H3) (w : World) (hl : hs.length = n) (hn : n ≤ 40) (hok : hs.all okB = true) (hnil : a = none → n = 0 ∧ cap = 0) (hA : HsAt w a hs) :
    Calls Try.prog 94 #[.slice a n cap] w (FromW w hs) := by
  have HM := Lib.hid (fun W (h : Below w.heap.size w W) => spec_make a n cap hs W hl (by omega) hok hnil (hA.below h))
  have HF := Lib.hid (show okF hs = decide ((regL hs).length ≤ 40) by unfold okF; rw [hl, hok]; simp [hn])
  have HR := Lib.hid (mod_reg hok)
  clear hl hok hnil hA
  go_enter Try.func94, Try.ntmps94
  go_wp2_with fail
  refine (HM.out _ (below_one _ _)).mono ?_
  rintro e w1 ⟨a1, c1, rfl, ho1, bl1⟩
  rw [HR.out] at ho1 ⊢
  have q1 := cell_to (show (w.alloc (.cells #[.slice none 0 0] 56)).cell? ⟨w.heap.size, 0, none⟩ = some (.slice none 0 0) by simp) bl1
  have f1 : w1.frozen? ⟨w.heap.size, 0, none⟩ = false := by rw [bl1.frozen (by simp)]; simp
  have b1 := below_to (below_one _ _) bl1
  have hz : w.heap.size < w1.heap.size := by have := bl1.size; simp at this; omega
  have H1 := Lib.hid ho1
  have hB : w.heap.size < (w.alloc (.cells #[.slice none 0 0] 56)).heap.size := by simp
  clear ho1 bl1
  generalize (w.alloc (.cells #[.slice none 0 0] 56)).heap.size = B at *
  generalize hm : (regL hs).length = m at *
  by_cases h40 : m ≤ 40
  · have HO := Lib.hid (show okF hs = true by rw [HF.out]; simp [h40])
    have HW := Lib.hid (FromW.yes (w := w) HO.out (own_base (own_below (own_far (p := ⟨w.heap.size, 0, none⟩) H1.out hB (.slice a1 m c1)) (below_one _ (.cells #[.slice a1 m c1] 56))) (Nat.le_of_lt hB)) (below_bx2 (b1.setCell (Nat.le_refl _) _) _))
    clear hm
    go_wp2
    exact bodyPost_ret (v := .tuple #[.agg #[.slice a1 m c1], .bool true]) (by simp [results, Try.results94, go_sem, q1, hz]) rfl HW.out
  · have HO := Lib.hid (show okF hs = false by rw [HF.out]; simp [h40])
    clear hm
    go_wp2
    exact bodyPost_ret (v := .tuple #[.agg #[.slice none 0 0], .bool false]) (by simp [results, Try.results94, go_sem, q1, hz]) rfl (FromW.no HO.out (below_bx2 (b1.setCell (Nat.le_refl _) _) _))
set_option maxRecDepth 100000 in
set_option maxHeartbeats 4000000 in
theorem spec_from (a : Option Addr) (n cap : Nat) (hs : List H3) (w : World) (hl : hs.length = n) (hn : n ≤ 1048576) (h64 : ∀ h ∈ hs, In64 h) (hnil : a = none → n = 0 ∧ cap = 0) (hA : HsAt w a hs) :
    Calls Try.prog 86 #[.slice a n cap] w (FromW w hs) := by
  have HL := Lib.hid hl
  have HA := Lib.hid hA
  have H6 := Lib.hid h64
  have HNI := Lib.hid hnil
  clear hl hA h64 hnil
  have bV := below_one w (.cells #[.slice none 0 0] 56)
  have q2 : (w.alloc (.cells #[.slice none 0 0] 56)).cell? ⟨w.heap.size, 0, none⟩ = some (.slice none 0 0) := by simp
  have f2 : (w.alloc (.cells #[.slice none 0 0] 56)).frozen? ⟨w.heap.size, 0, none⟩ = false := by simp
  have hzV : w.heap.size < (w.alloc (.cells #[.slice none 0 0] 56)).heap.size := by simp
  by_cases h40 : n ≤ 40
  · have hd : ¬ ((40 : Int) < (n : Int)) := by omega
    go_enter Try.func86, Try.ntmps86
    go_wp2
    generalize w.alloc (.cells #[.slice none 0 0] 56) = V at *
    go_loopw [12] (fun i wr => ∃ k : Nat, k ≤ n ∧ i = .int .i64 k ∧ (hs.take k).all okB = true ∧ Below V.heap.size V wr) (fun i _ => n - (intOf i).toNat)
    case atStart => exact ⟨0, Nat.zero_le _, rfl, by simp, Below.refl _ _⟩
    case round =>
      obtain ⟨k, hk, rfl, ht, hbel⟩ := hrel
      have HT := Lib.hid ht
      have hbw := below_to bV hbel
      have p2 := cell_to q2 hbel
      have g2 : wr.frozen? ⟨w.heap.size, 0, none⟩ = false := by rw [hbel.frozen hzV]; exact f2
      have hzr : w.heap.size < wr.heap.size := by have := hbel.size; omega
      clear ht
      by_cases hlt : k < n
      · obtain ⟨⟨xa, xb, xc⟩, hx⟩ : ∃ x, hs[k]? = some x := ⟨_, List.getElem?_eq_getElem (by rw [HL.out]; exact hlt)⟩
        obtain ⟨g, o, rfl, hc⟩ := HA.out k _ hx
        obtain ⟨t1, t2, t3⟩ := hc.to hbw
        obtain ⟨⟨a1, a2⟩, ⟨b1, b2⟩, c1, c2⟩ := H6.out _ (List.mem_of_getElem? hx)
        have l1 := block_lt_of_cell t1
        simp only at t1 t2 t3 a1 a2 b1 b2 c1 c2 l1
        have HX := Lib.hid hx
        have HO := Lib.hid (fun W => spec_hok xa xb xc W a1 a2 b1 b2 c1 c2)
        clear hx hc a1 a2 b1 b2 c1 c2
        cases hok : okH xa xb xc with
        | true =>
          rw [hok] at HO
          have HY := Lib.hid (take_all HX.out hok HT.out)
          clear hok
          go_wp2_with (go_at_call 52; (with_reducible refine (HO.out _).mono ?_); rintro e w1 ⟨rfl, bl1⟩)
          go_roundw
          case rel => exact ⟨k + 1, by omega, by go_num, HY.out, hbel.trans ((below_to (below_one _ _) bl1).mono hbel.size)⟩
          case measure => simp [intOf]; omega
        | false =>
          rw [hok] at HO
          have HN := Lib.hid (show okF hs = false by unfold okF; rw [all_no HX.out hok]; simp)
          clear hok
          go_wp2_with (go_at_call 52; (with_reducible refine (HO.out _).mono ?_); rintro e w1 ⟨rfl, bl1⟩; have b1 := below_to (below_bx2 hbw (.cells #[.int .i64 xa, .int .i64 xb, .int .i64 xc] 60)) bl1; have p3 := cell_to (cell_to p2 (below_one wr (.cells #[.int .i64 xa, .int .i64 xb, .int .i64 xc] 60))) bl1; have g3 : w1.frozen? ⟨w.heap.size, 0, none⟩ = false := (by rw [bl1.frozen (by simp; omega), (below_one wr (.cells #[.int .i64 xa, .int .i64 xb, .int .i64 xc] 60)).frozen hzr]; exact g2))
          exact bodyPost_ret (v := .tuple #[.agg #[.slice none 0 0], .bool false]) (by simp [results, Try.results86, go_sem, p3]) rfl (FromW.no HN.out (b1.setCell (Nat.le_refl _) _))
      · obtain rfl : k = n := by omega
        have hall : hs.all okB = true := by have := HT.out; rwa [List.take_of_length_le (by rw [HL.out]; omega)] at this
        have HF := Lib.hid (spec_fit a k cap hs wr HL.out h40 hall HNI.out (HA.out.below hbw))
        clear hall
        go_wp2_with fail
        refine HF.out.mono ?_
        rintro e w1 ⟨a1, c1, rfl, ho1, bl1⟩
        have b1 := below_to hbw bl1
        have p3 := cell_to p2 bl1
        have g3 : w1.frozen? ⟨w.heap.size, 0, none⟩ = false := by rw [bl1.frozen hzr]; exact g2
        have HW := Lib.hid (show FromW w hs (.returned (.tuple #[.agg #[.slice a1 (regE hs).length c1], .bool (okF hs)])) (w1.setCell ⟨w.heap.size, 0, none⟩ (.slice a1 (regE hs).length c1)) from ⟨a1, c1, rfl, own_base (own_far (p := ⟨w.heap.size, 0, none⟩) ho1 hzr _) (Nat.le_of_lt hzr), b1.setCell (Nat.le_refl _) _⟩)
        clear ho1
        generalize (regE hs).length = m at *
        generalize okF hs = r at *
        go_wp2
        exact bodyPost_ret (v := .tuple #[.agg #[.slice a1 m c1], .bool r]) (by simp [results, Try.results86, go_sem, p3]) rfl HW.out
  · have hd : (40 : Int) < (n : Int) := by omega
    have HN := Lib.hid (show okF hs = false by unfold okF; rw [HL.out]; simp [h40])
    clear q2 f2 hzV
    go_enter Try.func86, Try.ntmps86
    go_wp2
    exact bodyPost_ret (v := .tuple #[.agg #[.slice none 0 0], .bool false]) (by simp [results, Try.results86, go_sem]) rfl (FromW.no HN.out bV)

theorem grown_set {w w' : World} {g n cap : Nat} (h : w.grownBy w' (Value.slice (some ⟨g, 0, none⟩) n cap).ownBlock) (o : Nat) (u : Value) : w.grownBy (w'.setCell ⟨g, o, none⟩ u) (Value.slice (some ⟨g, 0, none⟩) n cap).ownBlock :=
  ⟨h.os, h.tape, h.output, by simpa using h.size, fun k hk hne => (Below.heap_setCell w' ⟨g, o, none⟩ u k (fun e => hne (by rw [e]; rfl))).trans (h.block k hk hne)⟩
theorem grown_new {w w' : World} {row : Option Nat} {o : Obj} (h : (w.alloc o).grownBy w' row) : w.grownBy w' row :=
  (World.grownBy_alloc w o row).trans h
theorem grown_below {w w' : World} {B n s : Nat} {e : TypeId} {v : Value} {xs : List Value} (h : w.ownsRow B e s v n xs) (hB : B ≤ w.heap.size) (hg : w.grownBy w' v.ownBlock) : Below B w w' :=
  (Below.refl B w).grown hg hB (fun _ hp => own_base_le h hp)
/-- a row in another block is as it was -/
theorem own_grow {w w' : World} {B n s : Nat} {e : TypeId} {v : Value} {xs : List Value} {row : Option Nat} (h : w.ownsRow B e s v n xs) (hg : w.grownBy w' row) (hne : ∀ p, v.ownBlock = some p → some p ≠ row) : w'.ownsRow B e s v n xs := by
  refine ⟨h.1, ?_⟩
  rcases h.2 with h2 | ⟨g, cap, cur, hv, hg', hh, r⟩
  · exact .inl h2
  · exact .inr ⟨g, cap, cur, hv, hg', (hg.block g (lt_of_block hh) (hne g (by rw [hv]; rfl))).trans hh, r⟩
theorem own_block_lt {w : World} {B n s p : Nat} {e : TypeId} {v : Value} {xs : List Value} (h : w.ownsRow B e s v n xs) (hp : v.ownBlock = some p) : B ≤ p ∧ p < w.heap.size := by
  rcases h.2 with ⟨rfl, _⟩ | ⟨g, cap, cur, rfl, hg, hh, _⟩
  · simp [Value.ownBlock] at hp
  · simp [Value.ownBlock] at hp
    subst hp
    exact ⟨hg, lt_of_block hh⟩
theorem own_nil {w : World} {B n s cap : Nat} {e : TypeId} {a : Option Addr} {xs : List Value} (h : w.ownsRow B e s (.slice a n cap) n xs) : a = none → n = 0 ∧ cap = 0 := by
  rintro rfl
  rcases h.2 with ⟨h1, h2⟩ | ⟨g, cap', cur, h1, _⟩
  · simp at h1; omega
  · simp at h1
end Go.Proofs.Ytibkmhmeoelpdaa
