/- What ShiftRegion answers, and the contracts of the model's functions over the translation. -/
import Derived.Test.YtefafkainfhhkaaMv
namespace Go.Proofs.Ytefafkainfhhkaa
open Go.RowKit
open Geo (H3)

/-- a half plane in lowest terms, zeros if it is not valid -/
def redH (a b c : Int) : H3 := ⟨kp (hasH a b c) (a.tdiv (gS a b c)), kp (hasH a b c) (b.tdiv (gS a b c)), kp (hasH a b c) (c.tdiv (gS a b c))⟩
theorem ans_red (a b c : Int) : ansH a b c = .tuple #[.agg #[.int .i64 (redH a b c).a, .int .i64 (redH a b c).b, .int .i64 (redH a b c).c], .bool (hasH a b c)] := rfl
theorem red_ok {a b c : Int} (h : hasH a b c = true) : okB (redH a b c) = true := by
  unfold redH okB
  rw [h]
  unfold hasH at h
  rw [Bool.and_eq_true] at h
  exact h.2
theorem ok_in64 {h : H3} (k : okB h = true) : In64 h := by
  obtain ⟨a1, a2, b1, b2, _, c1, c2, _⟩ := (okH_iff _ _ _).1 k
  exact ⟨⟨by omega, by omega⟩, ⟨by omega, by omega⟩, by omega, by omega⟩
theorem map_ok {B : H3 → Bool} {M : H3 → H3} (hM : ∀ h, B h = true → okB (M h) = true) {ps : List H3} (h : ps.all B = true) : (ps.map M).all okB = true := by
  rw [List.all_eq_true]
  intro x hx
  obtain ⟨y, hy, rfl⟩ := List.mem_map.1 hx
  exact hM y (List.all_eq_true.1 h y hy)
theorem AnsR.from {w V w' : World} {hs L : List H3} {b : Bool} {ao : Option Addr} {cp : Nat} (hL : L = regE hs) (hb : b = okF hs) (ho : w'.ownsRow V.heap.size 88 3 (.slice ao (regE hs).length cp) (regE hs).length (flat (regE hs))) (hV : w.heap.size ≤ V.heap.size) (hbl : Below w.heap.size w w') : AnsR w L b (.returned (.tuple #[.agg #[.slice ao (regE hs).length cp], .bool (okF hs)])) w' := by
  subst hL; subst hb
  exact ⟨ao, cp, rfl, own_base ho hV, hbl⟩
/-- an edge that is moved by whole numbers -/
def shB (dx dy : Int) (h : H3) : Bool := hasH h.a h.b (h.c + h.a * dx + h.b * dy)
def shM (dx dy : Int) (h : H3) : H3 := redH h.a h.b (h.c + h.a * dx + h.b * dy)
theorem sh_ok (dx dy : Int) (h : H3) (k : shB dx dy h = true) : okB (shM dx dy h) = true := red_ok k
def In2k (d : Int) : Prop := -2000 ≤ d ∧ d ≤ 2000
theorem sh_in {dx dy : Int} (hx : In2k dx) (hy : In2k dy) {h : H3} (k : okB h = true) : (-100000000 ≤ h.a * dx ∧ h.a * dx ≤ 100000000) ∧ (-100000000 ≤ h.b * dy ∧ h.b * dy ≤ 100000000) ∧ (-50000 ≤ h.a ∧ h.a ≤ 50000) ∧ (-50000 ≤ h.b ∧ h.b ≤ 50000) ∧ (-100000000 ≤ h.c ∧ h.c ≤ 100000000) := by
  obtain ⟨a1, a2, b1, b2, _, c1, c2, _⟩ := (okH_iff _ _ _).1 k
  have m1 := mul_in h.a dx 50000 2000 a1 a2 hx.1 hx.2
  have m2 := mul_in h.b dy 50000 2000 b1 b2 hy.1 hy.2
  omega
end Go.Proofs.Ytefafkainfhhkaa
