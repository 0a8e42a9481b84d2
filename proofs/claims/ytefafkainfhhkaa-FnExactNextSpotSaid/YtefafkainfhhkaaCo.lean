/- The corners of a valid region are valid spots that lie on two borders and in every half plane of the region and of the frame. -/
import Derived.Test.YtefafkainfhhkaaCm
import Derived.Test.YtefafkainfhhkaaMm
namespace Go.Proofs.Ytefafkainfhhkaa
open Go.RowKit
open Geo (H3)

theorem prs_ix (l : List H3) (z : H3) (i : Nat) (h : i < l.length) : (Geo.prs l z)[i]? = some (atI l i, if i + 1 < l.length then atI l (i + 1) else z) := by
  induction l generalizing i with
  | nil => simp at h
  | cons x l ih =>
    cases i with
    | zero =>
      cases l with
      | nil => simp [Geo.prs, atI]
      | cons y l => simp [Geo.prs, atI]
    | succ i =>
      have := ih i (by simpa using h)
      simp only [Geo.prs, List.getElem?_cons_succ, this]
      simp [atI]
theorem cyc_in {l : List H3} {i : Nat} (h : i < l.length) : (atI l i, atI l ((i + 1) % l.length)) ∈ Geo.cyc l := by
  have e := prs_ix l (l.headD ⟨0, 0, 0⟩) i h
  unfold Geo.cyc
  refine List.mem_of_getElem? (i := i) ?_
  rw [e]
  by_cases k : i + 1 < l.length
  · rw [if_pos k, Nat.mod_eq_of_lt k]
  · rw [if_neg k, show i + 1 = l.length by omega, Nat.mod_self]
    cases l with
    | nil => simp at h
    | cons x l => simp [atI]
theorem cyc_ix {l : List H3} {p : H3 × H3} (h : p ∈ Geo.cyc l) : ∃ i, i < l.length ∧ p = (atI l i, atI l ((i + 1) % l.length)) := by
  obtain ⟨i, hi⟩ := List.getElem?_of_mem h
  have hl : (Geo.cyc l).length = l.length := by
    have := congrArg List.length (Geo.prs_fst l (l.headD ⟨0, 0, 0⟩))
    simpa [Geo.cyc] using this
  have hlt : i < l.length := by
    have := (List.getElem?_eq_some_iff.1 hi).1
    omega
  refine ⟨i, hlt, ?_⟩
  have e := prs_ix l (l.headD ⟨0, 0, 0⟩) i hlt
  unfold Geo.cyc at hi
  rw [hi] at e
  injection e with e
  rw [e]
  by_cases k : i + 1 < l.length
  · rw [if_pos k, Nat.mod_eq_of_lt k]
  · rw [if_neg k, show i + 1 = l.length by omega, Nat.mod_self]
    cases l with
    | nil => simp at hlt
    | cons x l => simp [atI]
theorem inv_poly {E H : List H3} (h : Geo.Inv E H) (n : E ≠ []) : Geo.Poly E ∧ (∀ x ∈ E, x ∈ H) ∧ ∀ p ∈ Geo.cyc E, ∀ g ∈ H, Geo.D p.1 p.2 g ≤ 0 := by
  rcases h with h | ⟨h, _⟩
  · exact h
  · exact absurd h n
theorem rok_inv {ps : List H3} (h : rokB ps = true) (n : ps ≠ []) : Geo.Inv ps (Geo.frame ++ ps) := by
  have := regL_inv (rok_allB h)
  rwa [rok_reg h n] at this
theorem rok_poly {ps : List H3} (h : rokB ps = true) (n : ps ≠ []) : Geo.Poly ps ∧ ∀ p ∈ Geo.cyc ps, ∀ g ∈ Geo.frame ++ ps, Geo.D p.1 p.2 g ≤ 0 := by
  have := inv_poly (rok_inv h n) n
  exact ⟨this.1, this.2.2⟩
/-- the crossing of two borders that lies in the frame -/
theorem crn_of {f g : H3} (hf : okB f = true) (hg : okB g = true) (t : 0 < Geo.tn f g) (fr : ∀ y ∈ Geo.frame, Geo.D f g y ≤ 0) :
    crsV f.a f.b f.c g.a g.b g.c = .tuple #[.agg #[.int .i64 (crn f g).a, .int .i64 (crn f g).b, .int .i64 (crn f g).c], .bool true] ∧ okS (crn f g).a (crn f g).b (crn f g).c = true ∧
    ∃ k : Int, 1 ≤ k ∧ Geo.tn f g = k * (crn f g).c ∧ ∀ y, Geo.D f g y = k * Geo.val y (crn f g).a (crn f g).b (crn f g).c := by
  obtain ⟨c1, c2⟩ := cr_pos t
  have pt := cr_pt hf hg
  have hfr : frmB (crP f g) = true := by
    have a1 := fr ⟨1, 0, 1000⟩ (by simp [Geo.frame])
    have a2 := fr ⟨0, 1, 1000⟩ (by simp [Geo.frame])
    have a3 := fr ⟨-1, 0, 1000⟩ (by simp [Geo.frame])
    have a4 := fr ⟨0, -1, 1000⟩ (by simp [Geo.frame])
    rw [← c2] at a1 a2 a3 a4
    unfold Geo.val at a1 a2 a3 a4
    simp only at a1 a2 a3 a4
    unfold frmB
    simp only [Bool.and_eq_true, decide_eq_true_eq]
    omega
  obtain ⟨hs, hd⟩ := has_of pt hfr
  obtain ⟨X, Y, D, k, hk, ek, hX, hY, hD, tX, tY, tD, hD1⟩ := parts (crP f g).a (crP f g).b (crP f g).c hd
  have e1 : crsV f.a f.b f.c g.a g.b g.c = ansS (crP f g).a (crP f g).b (crP f g).c := by
    unfold Geo.tn at t
    unfold crsV crP
    rw [if_neg (by omega), if_neg (by grind)]
    simp only
    congr 1 <;> grind
  have ok := (hasS_pos hs).2
  rw [← ek, tX, tY, tD] at ok
  rw [ansS_yes hs, ← ek, tX, tY, tD] at e1
  obtain ⟨B, hB⟩ := crn_eq f g
  rw [e1] at hB
  unfold spotS at hB
  simp only [Value.tuple.injEq, Array.mk.injEq, List.cons.injEq, Value.agg.injEq, Value.int.injEq, true_and, and_true, Value.bool.injEq] at hB
  obtain ⟨⟨h1, h2, h3⟩, h4⟩ := hB
  rw [e1, ← h1, ← h2, ← h3]
  refine ⟨rfl, ok, k, hk, by rw [← c1, hD], fun y => ?_⟩
  rw [← c2, hX, hY, hD]
  unfold Geo.val
  grind
/-- a corner of a valid region -/
def cnr (ps : List H3) (i : Nat) : H3 × H3 := (atI ps i, atI ps ((i + 1) % ps.length))
noncomputable def crA (ps : List H3) (i : Nat) : H3 := crn (atI ps i) (atI ps ((i + 1) % ps.length))
theorem atI_mem {ps : List H3} {i : Nat} (h : i < ps.length) : atI ps i ∈ ps := by rw [atI_get h]; exact List.getElem_mem h
theorem cnr_facts {ps : List H3} (h : rokB ps = true) (n : ps ≠ []) {i : Nat} (hi : i < ps.length) :
    okS (crA ps i).a (crA ps i).b (crA ps i).c = true ∧ 1 ≤ (crA ps i).c ∧ (∀ y ∈ Geo.frame ++ ps, Geo.val y (crA ps i).a (crA ps i).b (crA ps i).c ≤ 0) ∧
    Geo.val (atI ps i) (crA ps i).a (crA ps i).b (crA ps i).c = 0 ∧ Geo.val (atI ps ((i + 1) % ps.length)) (crA ps i).a (crA ps i).b (crA ps i).c = 0 ∧
    ∃ k : Int, 1 ≤ k ∧ Geo.tn (atI ps i) (atI ps ((i + 1) % ps.length)) = k * (crA ps i).c ∧ ∀ y, Geo.D (atI ps i) (atI ps ((i + 1) % ps.length)) y = k * Geo.val y (crA ps i).a (crA ps i).b (crA ps i).c := by
  obtain ⟨P, c⟩ := rok_poly h n
  have m := cyc_in hi
  have ok := rok_all h
  have c' := c _ m
  have t := (P.2.2.2 _ m).1
  have j : (i + 1) % ps.length < ps.length := Nat.mod_lt _ (by omega)
  simp only at c' t
  obtain ⟨_, o, k, hk, e1, e2⟩ := crn_of (ok _ (atI_mem hi)) (ok _ (atI_mem j)) t (fun y hy => c' y (List.mem_append.2 (.inl hy)))
  have o' := (okS_iff _ _ _).1 o
  have pos : ∀ v : Int, k * v ≤ 0 → v ≤ 0 := fun v hv => by
    rcases Int.lt_or_le 0 v with q | q
    · have := Int.mul_pos (by omega : 0 < k) q; omega
    · exact q
  have zer : ∀ v : Int, 0 = k * v → v = 0 := fun v hv => by
    rcases Int.mul_eq_zero.1 hv.symm with q | q
    · omega
    · exact q
  have e3 : ∀ y, Geo.D (atI ps i) (atI ps ((i + 1) % ps.length)) y = k * Geo.val y (crA ps i).a (crA ps i).b (crA ps i).c := e2
  refine ⟨o, o'.1, fun y hy => pos _ ?_, zer _ ?_, zer _ ?_, k, hk, e1, e2⟩
  · rw [← e3]; exact c' y hy
  · rw [← e3]; unfold Geo.D; grind
  · rw [← e3]; unfold Geo.D; grind
theorem corL_get (ps : List H3) {k i : Nat} (h : i < k) : (corL ps k)[i]? = some (crA ps i) := by
  unfold corL crA
  simp [h]
end Go.Proofs.Ytefafkainfhhkaa
