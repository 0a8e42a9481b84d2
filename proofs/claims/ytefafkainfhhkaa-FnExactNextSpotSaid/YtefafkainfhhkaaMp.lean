/- MapSpot of the program and of the model over the translation. -/
import Derived.Test.YtefafkainfhhkaaIz
namespace Go.Proofs.Ytefafkainfhhkaa
open Go.RowKit
open Geo (H3)

theorem map_four {zs : List Int} {q : Int} (h : mapB zs q = true) : ∃ a b c d : Int, zs = [a, b, c, d] ∧ (-20 ≤ a ∧ a ≤ 20) ∧ (-20 ≤ b ∧ b ≤ 20) ∧ (-20 ≤ c ∧ c ≤ 20) ∧ (-20 ≤ d ∧ d ≤ 20) ∧ 1 ≤ q ∧ q ≤ 20 := by
  unfold mapB at h
  simp only [Bool.and_eq_true, decide_eq_true_eq] at h
  obtain ⟨⟨h1, h2⟩, h3⟩ := h
  match zs, h1 with
  | [a, b, c, d], _ =>
    simp only [List.all_cons, List.all_nil, Bool.and_true, Bool.and_eq_true] at h3
    unfold inB at h2 h3
    simp only [Bool.and_eq_true, decide_eq_true_eq] at h2 h3
    exact ⟨a, b, c, d, rfl, h3.1, h3.2.1, h3.2.2.1, h3.2.2.2, h2.1, h2.2⟩
theorem seven7 {V X : World} {p0 p1 p2 p3 p4 p5 p6 : Addr} {a0 a1 a2 a3 a4 a5 a6 : Value} (h0 : V.cell? p0 = some a0) (h1 : V.cell? p1 = some a1) (h2 : V.cell? p2 = some a2) (h3 : V.cell? p3 = some a3) (h4 : V.cell? p4 = some a4) (h5 : V.cell? p5 = some a5) (h6 : V.cell? p6 = some a6) (hb : Below V.heap.size V X) :
    X.cell? p0 = some a0 ∧ X.cell? p1 = some a1 ∧ X.cell? p2 = some a2 ∧ X.cell? p3 = some a3 ∧ X.cell? p4 = some a4 ∧ X.cell? p5 = some a5 ∧ X.cell? p6 = some a6 :=
  ⟨cell_to h0 hb, cell_to h1 hb, cell_to h2 hb, cell_to h3 hb, cell_to h4 hb, cell_to h5 hb, cell_to h6 hb⟩
theorem seven_put {V X : World} {B b c i0 i1 i2 i3 j0 j1 j2 : Nat} {a0 a1 a2 a3 a4 a5 a6 u v z : Value} (hb : Below V.heap.size V X) (h0 : V.cell? ⟨b, i0, none⟩ = some a0) (h1 : V.cell? ⟨b, i1, none⟩ = some a1) (h2 : V.cell? ⟨b, i2, none⟩ = some a2) (h3 : V.cell? ⟨b, i3, none⟩ = some a3) (h4 : V.cell? ⟨c, j0, none⟩ = some a4) (h5 : V.cell? ⟨c, j1, none⟩ = some a5) (h6 : V.cell? ⟨c, j2, none⟩ = some a6) (n1 : B ≠ b) (n2 : B ≠ c) :
    (((X.setCell ⟨B, 0, none⟩ u).setCell ⟨B, 1, none⟩ v).setCell ⟨B, 2, none⟩ z).cell? ⟨b, i0, none⟩ = some a0 ∧ (((X.setCell ⟨B, 0, none⟩ u).setCell ⟨B, 1, none⟩ v).setCell ⟨B, 2, none⟩ z).cell? ⟨b, i1, none⟩ = some a1 ∧ (((X.setCell ⟨B, 0, none⟩ u).setCell ⟨B, 1, none⟩ v).setCell ⟨B, 2, none⟩ z).cell? ⟨b, i2, none⟩ = some a2 ∧ (((X.setCell ⟨B, 0, none⟩ u).setCell ⟨B, 1, none⟩ v).setCell ⟨B, 2, none⟩ z).cell? ⟨b, i3, none⟩ = some a3 ∧
    (((X.setCell ⟨B, 0, none⟩ u).setCell ⟨B, 1, none⟩ v).setCell ⟨B, 2, none⟩ z).cell? ⟨c, j0, none⟩ = some a4 ∧ (((X.setCell ⟨B, 0, none⟩ u).setCell ⟨B, 1, none⟩ v).setCell ⟨B, 2, none⟩ z).cell? ⟨c, j1, none⟩ = some a5 ∧ (((X.setCell ⟨B, 0, none⟩ u).setCell ⟨B, 1, none⟩ v).setCell ⟨B, 2, none⟩ z).cell? ⟨c, j2, none⟩ = some a6 := by
  have f : ∀ (q : Addr) (s : Value), B ≠ q.block → V.cell? q = some s → (((X.setCell ⟨B, 0, none⟩ u).setCell ⟨B, 1, none⟩ v).setCell ⟨B, 2, none⟩ z).cell? q = some s := fun q s hn h => by
    rw [World.cell?_setCell_far _ _ _ _ (by simpa using hn), World.cell?_setCell_far _ _ _ _ (by simpa using hn), World.cell?_setCell_far _ _ _ _ (by simpa using hn)]
    exact cell_to h hb
  exact ⟨f _ _ n1 h0, f _ _ n1 h1, f _ _ n1 h2, f _ _ n1 h3, f _ _ n2 h4, f _ _ n2 h5, f _ _ n2 h6⟩
/-- what MapSpot answers -/
def msV (x y d : Int) (zs : List Int) (q : Int) : Value := if okS x y d = true ∧ mapB zs q = true then ansS (zs.getD 0 0 * x + zs.getD 1 0 * y) (zs.getD 2 0 * x + zs.getD 3 0 * y) (q * d) else zeroS
end Go.Proofs.Ytefafkainfhhkaa
