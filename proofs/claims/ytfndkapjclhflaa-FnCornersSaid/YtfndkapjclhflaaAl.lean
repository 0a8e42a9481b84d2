/- Corners and inner spots of drawn areas (no calls). -/
import Derived.Test.YtfndkapjclhflaaAj
import Derived.Test.YtfndkapjclhflaaNa
import Derived.Test.YtfndkapjclhflaaCg
namespace Go.Proofs.Ytfndkapjclhflaa
open Go.RowKit
open Geo (H3)

theorem corner_facts {ps : List H3} (r : rokB ps = true) (n : ps ≠ []) {i : Nat} (hi : i < ps.length) :
    okS (crA ps i).a (crA ps i).b (crA ps i).c = true ∧ hasB ps (crA ps i).a (crA ps i).b (crA ps i).c = true ∧ isC ps (crA ps i) = true ∧
    sideH (atI ps i).a (atI ps i).b (atI ps i).c (crA ps i).a (crA ps i).b (crA ps i).c = 0 ∧
    sideH (atI ps ((i + 1) % ps.length)).a (atI ps ((i + 1) % ps.length)).b (atI ps ((i + 1) % ps.length)).c (crA ps i).a (crA ps i).b (crA ps i).c = 0 ∧
    crA ps ((i + 1) % ps.length) ≠ crA ps i := by
  obtain ⟨o, c1, ins, z1, z2, k, hk, _, e2⟩ := cnr_facts r n hi
  obtain ⟨P, _⟩ := rok_poly r n
  have j : (i + 1) % ps.length < ps.length := Nat.mod_lt _ (by omega)
  have side : ∀ m, m < ps.length → Geo.val (atI ps m) (crA ps i).a (crA ps i).b (crA ps i).c = 0 → sideH (atI ps m).a (atI ps m).b (atI ps m).c (crA ps i).a (crA ps i).b (crA ps i).c = 0 := by
    intro m hm z
    unfold sideH
    rw [if_pos ⟨rok_all r _ (atI_mem hm), o⟩]
    exact side_zeroD.2 z
  refine ⟨o, (has_iff r n o).2 (fun e he => ins e (List.mem_append_right _ he)), ?_, side _ hi z1, side _ j z2, ?_⟩
  · unfold isC
    rw [List.any_eq_true]
    refine ⟨crA ps i, ?_, by simp⟩
    unfold corR
    rw [if_pos r]
    exact List.mem_of_getElem? (corL_get ps hi)
  · intro e
    obtain ⟨o', c1', ins', y1, y2, k', hk', _, e2'⟩ := cnr_facts r n j
    have cc := Geo.Crn.lt (P.2.2.2 _ (cyc_in hi)) (P.2.2.2 _ (cyc_in j)) (atI_mem (Nat.mod_lt _ (by omega)))
    rw [e2] at cc
    rw [e] at y2
    rw [y2] at cc
    omega
theorem edge_before {ps : List H3} (r : rokB ps = true) (n : ps ≠ []) {i : Nat} (h0 : 0 < i) (hi : i < ps.length) : befV (atI ps (i - 1)).a (atI ps (i - 1)).b (atI ps i).a (atI ps i).b = true := by
  obtain ⟨P, _⟩ := rok_poly r n
  have := List.pairwise_iff_getElem.1 P.2.2.1 (i - 1) i (by omega) hi (by omega)
  rw [bef_V] at this
  rw [atI_get hi, atI_get (show i - 1 < ps.length by omega)]
  exact this
theorem poly_len {ps : List H3} (r : rokB ps = true) (n : ps ≠ []) : 3 ≤ ps.length := (rok_poly r n).1.1
theorem cnt_ge {hs : List H3} (h : ∀ g ∈ hs, okB g = true) (j : Nat) : ∀ k, j < k → k ≤ 2001 → widF hs (-1000 + j) ≤ cntF hs k := by
  intro k
  induction k with
  | zero => intro h; omega
  | succ k ih =>
    intro h1 h2
    rw [cntF_wid]
    have b := cntF_bnd h k (by omega)
    have w0 : 0 ≤ widF hs (-1000 + k) := by unfold widF; omega
    rcases Nat.lt_or_ge j k with q | q
    · have := ih q (by omega)
      omega
    · have : j = k := by omega
      subst this
      omega
theorem inner_facts {ps : List H3} {x y u v : Int} (F : AreaF ps x y u v) : ∃ X Y : Int, innV ps = spotS X Y 1 ∧ okS X Y 1 = true ∧ hasB ps X Y 1 = true ∧ 0 < whoN ps := by
  have r := F.1
  have n := F.2.1
  have q := F.2.2.2.1
  have st := F.2.2.2.2.1
  have c := (colF_iff (x := x + 1) (y := y + 1) ps).2 ⟨by omega, fun g hg => Int.le_of_lt (st g hg)⟩
  have ek : (-1000 : Int) + ((x + 1001).toNat : Int) = x + 1 := by omega
  have hp : innP ps (x + 1001).toNat = true := by
    unfold innP
    rw [ek]
    exact decide_eq_true (by omega)
  have hN : innN ps = (List.range 2001).find? (innP ps) := by unfold innN; rw [if_pos ⟨r, n⟩]
  obtain ⟨k, hk⟩ : ∃ k, (List.range 2001).find? (innP ps) = some k := by
    cases hf : (List.range 2001).find? (innP ps) with
    | some k => exact ⟨k, rfl⟩
    | none =>
      have := List.find?_eq_none.1 hf (x + 1001).toNat (List.mem_range.2 (by omega))
      exact absurd hp this
  have pk := List.find?_some hk
  have mk := List.mem_range.1 (List.mem_of_find?_eq_some hk)
  unfold innP at pk
  rw [decide_eq_true_eq] at pk
  obtain ⟨b, a⟩ := (colF_iff (x := -1000 + k) (y := (colF (-1000 + k) ps).1) ps).1 ⟨Int.le_refl _, pk⟩
  have o : okS (-1000 + k) (colF (-1000 + k) ps).1 1 = true := whole_ok (by omega) b
  refine ⟨-1000 + k, (colF (-1000 + k) ps).1, ?_, o, (has_iff r n o).2 a, ?_⟩
  · unfold innV innA
    rw [hN, hk]
    rfl
  · unfold whoN
    rw [if_pos ⟨r, n⟩]
    have := cnt_ge (rok_all r) (x + 1001).toNat 2001 (by omega) (by omega)
    rw [ek] at this
    have : 1 ≤ widF ps (x + 1) := by unfold widF; omega
    omega
end Go.Proofs.Ytfndkapjclhflaa
