/- A slice of triples that came in, and a struct that holds one: what a law's walk is told of it. -/
import Derived.Test.YtefafkainfhhkaaRw
import Derived.ProofKit
import Derived.OpenShut
import Derived.Deep.Slices
import Derived.Deep.Fields
import Derived.Lib.SmallJoins
namespace Go.Proofs.Ytefafkainfhhkaa
open Go.ChangeShapes Go.WideShapes Go.ChangeAt Go.RowKit Go.Deep
open Geo (H3)

/-- three numbers of 64 bits -/
def In64 (h : H3) : Prop := (-9223372036854775808 ≤ h.a ∧ h.a ≤ 9223372036854775807) ∧ (-9223372036854775808 ≤ h.b ∧ h.b ≤ 9223372036854775807) ∧ (-9223372036854775808 ≤ h.c ∧ h.c ≤ 9223372036854775807)
theorem open_triples {H : Type} {enc : TypeId × Value → H} {P : Program} {W : World} {base : Nat} {t e : TypeId} {f0 f1 f2 : Field} {held : Bool} {a : Option Addr} {len cap fuel : Nat} {x : DataW H × List MemPlace}
    (ht : P.underlying t = some (.slice e)) (he : P.underlying e = some (.struct #[f0, f1, f2])) (hone : oneCellFields P #[f0, f1, f2] = true) (hC : P.cellsOf e = 3)
    (t0 : P.underlying f0.type = some (.int .i64)) (t1 : P.underlying f1.type = some (.int .i64)) (t2 : P.underlying f2.type = some (.int .i64))
    (h : DataW.trod enc P W base (fun _ => true) held fuel t [.slice a len cap] = some x) : ∃ hs : List H3, hs.length = len ∧ len ≤ maxLen ∧ (∀ h ∈ hs, In64 h) ∧ HsAt W a hs := by
  rcases open_slice ht h with ⟨h0, _⟩ | ⟨ad, len', cap', m, n, D, Pl, hcs, hb, hl, hm, hmm, hx, hi⟩
  · simp at h0
    obtain ⟨rfl, rfl, rfl⟩ := h0
    exact ⟨[], rfl, Nat.zero_le _, by simp, fun i x hx => by simp at hx⟩
  · simp at hcs
    obtain ⟨rfl, rfl, rfl⟩ := hcs
    simp only [if_true] at hmm
    subst hmm
    have key : ∀ i, i < len → ∃ p : H3, In64 p ∧ W.cell? (ad.add (i * 3)) = some (.int .i64 p.a) ∧ W.cell? (ad.add (i * 3 + 1)) = some (.int .i64 p.b) ∧ W.cell? (ad.add (i * 3 + 2)) = some (.int .i64 p.c) := by
      intro i hil
      obtain ⟨cs, hc, hd⟩ := hi i (by omega)
      rw [hC] at hc
      obtain ⟨_, hcl, hat⟩ := World.cells?_some hc
      obtain ⟨ys, n', _, _, _, hyl, hf⟩ := DataW.trod_struct he hd
      match cs, hcl with
      | [c0, c1, c2], _ =>
        match ys, hyl with
        | [y0, y1, y2], _ =>
          obtain ⟨o0, k0⟩ := hone_of hone 0 f0 rfl
          obtain ⟨o1, k1⟩ := hone_of hone 1 f1 rfl
          obtain ⟨o2, k2⟩ := hone_of hone 2 f2 rfl
          have g0 := hf 0 f0 rfl
          have g1 := hf 1 f1 rfl
          have g2 := hf 2 f2 rfl
          rw [o0, k0] at g0
          rw [o1, k1] at g1
          rw [o2, k2] at g2
          obtain ⟨z0, e0, _, w0⟩ := DataW.trod_int t0 g0
          obtain ⟨z1, e1, _, w1⟩ := DataW.trod_int t1 g1
          obtain ⟨z2, e2, _, w2⟩ := DataW.trod_int t2 g2
          simp at e0 e1 e2
          subst e0 e1 e2
          refine ⟨⟨z0, z1, z2⟩, ⟨bounds_i64 w0, bounds_i64 w1, bounds_i64 w2⟩, ?_, ?_, ?_⟩
          · have := hat 0 (by omega); simpa [Go.Deep.add_add] using this
          · have := hat 1 (by omega); rw [Go.Deep.add_add] at this; simpa using this
          · have := hat 2 (by omega); rw [Go.Deep.add_add] at this; simpa using this
    have key2 : ∀ k, k ≤ len → ∃ hs : List H3, hs.length = k ∧ (∀ h ∈ hs, In64 h) ∧ ∀ i p, hs[i]? = some p → W.cell? (ad.add (i * 3)) = some (.int .i64 p.a) ∧ W.cell? (ad.add (i * 3 + 1)) = some (.int .i64 p.b) ∧ W.cell? (ad.add (i * 3 + 2)) = some (.int .i64 p.c) := by
      intro k
      induction k with
      | zero => intro _; exact ⟨[], rfl, by simp, by simp⟩
      | succ k ih =>
        intro hk
        obtain ⟨hs, hl, hin, hat⟩ := ih (by omega)
        obtain ⟨p, hp, hc⟩ := key k (by omega)
        refine ⟨hs ++ [p], by simp [hl], ?_, ?_⟩
        · intro q hq
          simp only [List.mem_append, List.mem_singleton] at hq
          rcases hq with hq | rfl
          · exact hin q hq
          · exact hp
        · intro i q hq
          rcases Nat.lt_or_ge i k with hik | hik
          · rw [List.getElem?_append_left (by omega)] at hq
            exact hat i q hq
          · rw [List.getElem?_append_right (by omega)] at hq
            have h0 : i - hs.length = 0 := by
              rcases Nat.eq_zero_or_pos (i - hs.length) with h | h
              · exact h
              · rw [List.getElem?_eq_none (by simp; omega)] at hq; cases hq
            rw [h0] at hq
            simp at hq
            subst hq
            have : i = k := by omega
            subst this
            exact hc
    obtain ⟨hs, hl2, hin, hat⟩ := key2 len (Nat.le_refl _)
    refine ⟨hs, hl2, by omega, hin, ?_⟩
    intro i p hp
    obtain ⟨c0, c1, c2⟩ := hat i p hp
    obtain ⟨b, off, spot⟩ := ad
    have hspot : spot = none := by
      obtain ⟨p0, hp0⟩ : ∃ p0, hs[0]? = some p0 := ⟨_, List.getElem?_eq_getElem (by have := (List.getElem?_eq_some_iff.1 hp).1; omega)⟩
      have := (hat 0 p0 hp0).1
      simpa [Addr.add] using World.cell?_spot this
    subst hspot
    rw [addr_add] at c0 c1 c2
    exact ⟨b, off, rfl, c0, by simpa [Nat.add_assoc] using c1, by simpa [Nat.add_assoc] using c2⟩
/-- a struct of one field by value -/
theorem open_agg1 {H : Type} {enc : TypeId × Value → H} {P : Program} {w : World} {base : Nat} {spare : Nat → Bool} {held : Bool} {r : Reach} {b0 : Nat} {t : TypeId} {f0 : Field} {v : Value} {d : DataW H} {p : List MemPlace}
    (hs : P.underlying t = some (.struct #[f0])) (hone : oneCellFields P #[f0] = true) (hC : P.cellsOf t = 1) (hv : Value.okWide P w r b0 t v) (h : DataW.Trod enc P w base spare held t v d p) :
    ∃ (v0 : Value) (y0 : DataW H × List MemPlace) (n : Nat), v = .agg #[v0] ∧ DataW.trod enc P w base spare held n f0.type [v0] = some y0 := by
  obtain ⟨cs, rfl, hsz⟩ := okWide_struct hs hv
  obtain ⟨l⟩ := cs
  match l, hsz.trans hC with
  | [c0], _ =>
    obtain ⟨fuel, hf⟩ := h
    obtain ⟨xs, n, _, _, _, hlen, hg⟩ := DataW.trod_struct hs hf
    obtain ⟨o0, k0⟩ := hone_of hone 0 f0 rfl
    match xs, hlen with
    | [y0], _ => exact ⟨c0, y0, n, rfl, by simpa [Value.cells, o0, k0] using hg 0 f0 rfl⟩
theorem trod_slice_form {H : Type} {enc : TypeId × Value → H} {P : Program} {w : World} {base : Nat} {spare : Nat → Bool} {held : Bool} {t e : TypeId} {n : Nat} {v : Value} {y : DataW H × List MemPlace} (ht : P.underlying t = some (.slice e)) (h : DataW.trod enc P w base spare held n t [v] = some y) : ∃ a len cap, v = .slice a len cap := by
  rcases open_slice ht h with ⟨h0, _⟩ | ⟨ad, len', cap', m, n, D, Pl, hcs, _⟩
  · simp at h0; exact ⟨none, 0, 0, h0⟩
  · simp at hcs; exact ⟨_, _, _, hcs⟩
end Go.Proofs.Ytefafkainfhhkaa
