/- The walk of the law of RobustPart. -/
import Derived.Test.YtdjjncofahnaaaaGreatVf
import Derived.Test.YtdjjncofahnaaaaGreatVb
import Derived.Test.YtdjjncofahnaaaaGreatMf
namespace Go.Proofs.YtdjjncofahnaaaaGreat
open Go.RowKit
open Geo (H3)

theorem room16n {V X : World} {B C : Nat} {a0 a1 a2 a3 a4 a5 a6 a7 b0 b1 b2 b3 b4 b5 b6 b7 : Value} {T U : TypeId} (h : Blk V B #[a0, a1, a2, a3, a4, a5, a6, a7] T) (k : Blk V C #[b0, b1, b2, b3, b4, b5, b6, b7] U) (hb : Below V.heap.size V X) :
    X.cell? ⟨B, 0, none⟩ = some a0 ∧ X.cell? ⟨B, 1, none⟩ = some a1 ∧ X.cell? ⟨B, 2, none⟩ = some a2 ∧ X.cell? ⟨B, 3, none⟩ = some a3 ∧ X.cell? ⟨B, 4, none⟩ = some a4 ∧ X.cell? ⟨B, 5, none⟩ = some a5 ∧ X.cell? ⟨B, 6, none⟩ = some a6 ∧ X.cell? ⟨B, 7, none⟩ = some a7 ∧ X.cell? ⟨C, 0, none⟩ = some b0 ∧ X.cell? ⟨C, 1, none⟩ = some b1 ∧ X.cell? ⟨C, 2, none⟩ = some b2 ∧ X.cell? ⟨C, 3, none⟩ = some b3 ∧ X.cell? ⟨C, 4, none⟩ = some b4 ∧ X.cell? ⟨C, 5, none⟩ = some b5 ∧ X.cell? ⟨C, 6, none⟩ = some b6 ∧ X.cell? ⟨C, 7, none⟩ = some b7 :=
  ⟨(h.to hb).c8_0, (h.to hb).c8_1, (h.to hb).c8_2, (h.to hb).c8_3, (h.to hb).c8_4, (h.to hb).c8_5, (h.to hb).c8_6, (h.to hb).c8_7, (k.to hb).c8_0, (k.to hb).c8_1, (k.to hb).c8_2, (k.to hb).c8_3, (k.to hb).c8_4, (k.to hb).c8_5, (k.to hb).c8_6, (k.to hb).c8_7⟩
theorem ROwn.rows_lt {w : World} {B nm cm nn cn nl cl : Nat} {am an al : Option Addr} {zs : List Int} {ps qs : List H3} (h : ROwn w B am nm cm zs an nn cn ps al nl cl qs) : ∀ p, ((Value.slice am nm cm).ownBlock = some p ∨ (Value.slice an nn cn).ownBlock = some p ∨ (Value.slice al nl cl).ownBlock = some p) → B ≤ p ∧ p < w.heap.size := by
  rintro p (k | k | k)
  · exact own_block_lt h.om k
  · exact own_block_lt h.on k
  · exact own_block_lt h.ol k
theorem Gr3.size {w w' : World} {r1 r2 r3 : Option Nat} (h : Gr3 w w' r1 r2 r3) : w.heap.size ≤ w'.heap.size := by
  obtain ⟨w1, w2, g1, g2, g3⟩ := h
  exact Nat.le_trans g1.size (Nat.le_trans g2.size g3.size)
end Go.Proofs.YtdjjncofahnaaaaGreat
