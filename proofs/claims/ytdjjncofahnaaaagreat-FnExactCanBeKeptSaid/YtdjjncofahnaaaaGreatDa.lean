/- What the rounds of a room make (no calls). -/
import Derived.Test.YtdjjncofahnaaaaGreatVf
namespace Go.Proofs.YtdjjncofahnaaaaGreat
open Go.RowKit
open Geo (H3)

theorem kpL_64 (zs : List Int) (q bx cy lo hi : Int) (ps qs rs : List H3) : ∀ h ∈ kpL zs q bx cy lo hi ps qs rs, In64 h := by
  intro h hh
  unfold kpL at hh
  split at hh
  · exact met_64 _ _ h hh
  · simp at hh
/-- n rounds are left, k are done -/
noncomputable def rrF (zs : List Int) (q bx cy lo hi : Int) (ps qs : List H3) : Nat → List H3 → Nat → Option (List H3 × Nat × Bool)
  | 0, rs, k => some (rs, k, false)
  | n + 1, rs, k => if kpB zs q bx cy lo hi ps qs rs = true then (if kpL zs q bx cy lo hi ps qs rs = rs then some (rs, k, true) else rrF zs q bx cy lo hi ps qs n (kpL zs q bx cy lo hi ps qs rs) (k + 1)) else none
noncomputable def rrG (zs : List Int) (q bx cy lo hi : Int) (ps qs : List H3) (m : Int) : Option (List H3 × Nat × Bool) := if inB m 0 12 = true ∧ rmB zs q bx cy lo hi ps qs = true then rrF zs q bx cy lo hi ps qs m.toNat qs 0 else none
noncomputable def rrB (zs : List Int) (q bx cy lo hi : Int) (ps qs : List H3) (m : Int) : Bool := (rrG zs q bx cy lo hi ps qs m).isSome
noncomputable def rrL (zs : List Int) (q bx cy lo hi : Int) (ps qs : List H3) (m : Int) : List H3 := ((rrG zs q bx cy lo hi ps qs m).getD ([], 0, false)).1
noncomputable def rrN (zs : List Int) (q bx cy lo hi : Int) (ps qs : List H3) (m : Int) : Nat := ((rrG zs q bx cy lo hi ps qs m).getD ([], 0, false)).2.1
noncomputable def rrS (zs : List Int) (q bx cy lo hi : Int) (ps qs : List H3) (m : Int) : Bool := ((rrG zs q bx cy lo hi ps qs m).getD ([], 0, false)).2.2
section
variable {zs : List Int} {q bx cy lo hi : Int} {ps qs : List H3}
theorem rr_none {m : Int} (h : rrG zs q bx cy lo hi ps qs m = none) : rrL zs q bx cy lo hi ps qs m = [] ∧ rrN zs q bx cy lo hi ps qs m = 0 ∧ rrS zs q bx cy lo hi ps qs m = false ∧ rrB zs q bx cy lo hi ps qs m = false := by
  unfold rrL rrN rrS rrB
  rw [h]
  exact ⟨rfl, rfl, rfl, rfl⟩
theorem rr_some {m : Int} {L : List H3} {N : Nat} {S : Bool} (h : rrG zs q bx cy lo hi ps qs m = some (L, N, S)) : rrL zs q bx cy lo hi ps qs m = L ∧ rrN zs q bx cy lo hi ps qs m = N ∧ rrS zs q bx cy lo hi ps qs m = S ∧ rrB zs q bx cy lo hi ps qs m = true := by
  unfold rrL rrN rrS rrB
  rw [h]
  exact ⟨rfl, rfl, rfl, rfl⟩
theorem rr_no1 {m : Int} (h : inB m 0 12 = false) : rrG zs q bx cy lo hi ps qs m = none := by unfold rrG; rw [if_neg]; rw [h]; simp
theorem rr_no2 {m : Int} (h : rmB zs q bx cy lo hi ps qs = false) : rrG zs q bx cy lo hi ps qs m = none := by unfold rrG; rw [if_neg]; rw [h]; simp
theorem rr_go {m : Int} (h : inB m 0 12 = true) (k : rmB zs q bx cy lo hi ps qs = true) : rrG zs q bx cy lo hi ps qs m = rrF zs q bx cy lo hi ps qs m.toNat qs 0 := by unfold rrG; rw [if_pos ⟨h, k⟩]
theorem rrF_no {n k : Nat} {rs : List H3} (h : kpB zs q bx cy lo hi ps qs rs = false) : rrF zs q bx cy lo hi ps qs (n + 1) rs k = none := by
  rw [rrF, if_neg (by rw [h]; simp)]
theorem rrF_stop {n k : Nat} {rs : List H3} (h : kpB zs q bx cy lo hi ps qs rs = true) (e : kpL zs q bx cy lo hi ps qs rs = rs) : rrF zs q bx cy lo hi ps qs (n + 1) rs k = some (rs, k, true) := by
  rw [rrF, if_pos h, if_pos e]
theorem rrF_next {n k : Nat} {rs : List H3} (h : kpB zs q bx cy lo hi ps qs rs = true) (e : kpL zs q bx cy lo hi ps qs rs ≠ rs) : rrF zs q bx cy lo hi ps qs (n + 1) rs k = rrF zs q bx cy lo hi ps qs n (kpL zs q bx cy lo hi ps qs rs) (k + 1) := by
  rw [rrF, if_pos h, if_neg e]
theorem rm_qs (h : rmB zs q bx cy lo hi ps qs = true) : rokB qs = true ∧ qs ≠ [] ∧ rokB ps = true ∧ ps ≠ [] := by
  unfold rmB solB at h
  simp only [Bool.and_eq_true, Bool.not_eq_true', decide_eq_false_iff_not] at h
  exact ⟨h.2.2, h.2.1, h.1.2.2, h.1.2.1⟩
theorem rok_64 {rs : List H3} (h : rokB rs = true) : ∀ x ∈ rs, In64 x := fun x hx => ok_in64 (rok_all h x hx)
theorem rrF_len (n : Nat) : ∀ (rs : List H3) (k : Nat), rs.length ≤ 40 → (∀ x ∈ rs, In64 x) → k + n ≤ 12 → ∀ L N S, rrF zs q bx cy lo hi ps qs n rs k = some (L, N, S) → L.length ≤ 40 ∧ (∀ x ∈ L, In64 x) ∧ N ≤ 12 := by
  induction n with
  | zero =>
    intro rs k h1 h2 h3 L N S e
    unfold rrF at e
    simp only [Option.some.injEq, Prod.mk.injEq] at e
    obtain ⟨rfl, rfl, _⟩ := e
    exact ⟨h1, h2, by omega⟩
  | succ n ih =>
    intro rs k h1 h2 h3 L N S e
    by_cases b : kpB zs q bx cy lo hi ps qs rs = true
    · by_cases c : kpL zs q bx cy lo hi ps qs rs = rs
      · rw [rrF_stop b c] at e
        simp only [Option.some.injEq, Prod.mk.injEq] at e
        obtain ⟨rfl, rfl, _⟩ := e
        exact ⟨h1, h2, by omega⟩
      · rw [rrF_next b c] at e
        exact ih _ _ (kpL_len _ _ _ _ _ _ _ _ _) (kpL_64 _ _ _ _ _ _ _ _ _) (by omega) L N S e
    · rw [rrF_no (by simpa using b)] at e
      cases e
theorem rr_len (m : Int) : (rrL zs q bx cy lo hi ps qs m).length ≤ 40 ∧ (∀ x ∈ rrL zs q bx cy lo hi ps qs m, In64 x) ∧ rrN zs q bx cy lo hi ps qs m ≤ 12 := by
  cases h : rrG zs q bx cy lo hi ps qs m with
  | none =>
    obtain ⟨e1, e2, _⟩ := rr_none h
    rw [e1, e2]
    exact ⟨by simp, by simp, by omega⟩
  | some x =>
    obtain ⟨L, N, S⟩ := x
    obtain ⟨e1, e2, _⟩ := rr_some h
    rw [e1, e2]
    unfold rrG at h
    split at h
    · rename_i c
      obtain ⟨c1, c2⟩ := c
      unfold inB at c1
      simp only [Bool.and_eq_true, decide_eq_true_eq] at c1
      obtain ⟨r, _⟩ := rm_qs c2
      exact rrF_len _ qs 0 (rok_len r) (rok_64 r) (by omega) L N S h
    · cases h
end
end Go.Proofs.YtdjjncofahnaaaaGreat
