/- The walk of the law FnSupports. -/
import Derived.Test.YtfndkapjclhflaaAf
import Derived.Test.YtfndkapjclhflaaAd
namespace Go.Proofs.Ytfndkapjclhflaa
open Go.RowKit
open Geo (H3)

theorem of_one {n : Int} (h : -1000 ≤ n ∧ n ≤ 1000) : ofN n 1 = n ∧ ofD n 1 = 1 ∧ okR n 1 = true := by
  have hg : Int.gcd n 1 = 1 := by simp
  have hR : hasR n 1 = true := by
    rw [hasR_iff]
    unfold topR botR
    rw [hg]
    simp
    omega
  obtain ⟨e1, e2⟩ := of_num (n := n) (d := 1) (by omega)
  rw [hg] at e1 e2
  simp at e1 e2
  refine ⟨by unfold ofN; rw [if_pos hR, e1], by unfold ofD; rw [if_pos hR]; exact_mod_cast e2, ?_⟩
  rw [okR_iff]
  exact ⟨by omega, by omega, by omega, by omega, hg⟩
theorem cmp_le {n N D : Int} (ok : okR n 1 = true) (k : okR N D = true) (h : n * D ≤ N * 1) : cmpO n 1 N D ≤ 0 := by
  rw [cmpO_of ok k]
  unfold cmpR
  split
  · omega
  · split <;> omega
theorem rem_in {x n : Int} (hn : 0 < n) (h : 0 ≤ x ∧ x ≤ 65535) : 0 ≤ x.tmod n ∧ x.tmod n < n := by
  rw [Int.tmod_eq_emod_of_nonneg h.1]
  exact ⟨Int.emod_nonneg _ (by omega), Int.emod_lt_of_pos _ hn⟩
theorem keep7 {V X : World} {B C g o : Nat} {b0 b1 c0 c1 x y z : Value} {T U : TypeId} (h : Blk V B #[b0, b1] T) (k : Blk V C #[c0, c1] U) (t : Tri V g o x y z) (hb : Below V.heap.size V X) :
    X.cell? ⟨B, 0, none⟩ = some b0 ∧ X.cell? ⟨B, 1, none⟩ = some b1 ∧ X.cell? ⟨C, 0, none⟩ = some c0 ∧ X.cell? ⟨C, 1, none⟩ = some c1 ∧ X.cell? ⟨g, o, none⟩ = some x ∧ X.cell? ⟨g, o + 1, none⟩ = some y ∧ X.cell? ⟨g, o + 2, none⟩ = some z :=
  ⟨(h.to hb).cell0 rfl, (h.to hb).cell0 rfl, (k.to hb).cell0 rfl, (k.to hb).cell0 rfl, (t.to hb).1, (t.to hb).2.1, (t.to hb).2.2⟩
theorem ten_in {A B X Y : Int} (hA : -10 ≤ A ∧ A ≤ 10) (hB : -10 ≤ B ∧ B ≤ 10) (h : -40 ≤ X ∧ X ≤ 39 ∧ -40 ≤ Y ∧ Y ≤ 39) : (-400 ≤ A * X ∧ A * X ≤ 400) ∧ -400 ≤ B * Y ∧ B * Y ≤ 400 := by
  have k : ∀ a b : Int, (-10 ≤ a ∧ a ≤ 10) → (-40 ≤ b ∧ b ≤ 40) → -400 ≤ a * b ∧ a * b ≤ 400 := by
    intro a t ha ht
    rcases (by omega : a = -10 ∨ a = -9 ∨ a = -8 ∨ a = -7 ∨ a = -6 ∨ a = -5 ∨ a = -4 ∨ a = -3 ∨ a = -2 ∨ a = -1 ∨ a = 0 ∨ a = 1 ∨ a = 2 ∨ a = 3 ∨ a = 4 ∨ a = 5 ∨ a = 6 ∨ a = 7 ∨ a = 8 ∨ a = 9 ∨ a = 10) with rfl | rfl | rfl | rfl | rfl | rfl | rfl | rfl | rfl | rfl | rfl | rfl | rfl | rfl | rfl | rfl | rfl | rfl | rfl | rfl | rfl <;> omega
  exact ⟨k _ _ hA (by omega), k _ _ hB (by omega)⟩
theorem keep6 {V X : World} {B C E : Nat} {a0 c0 c1 x y z : Value} {T U T' : TypeId} (h : Blk V B #[a0] T) (k : Blk V C #[c0, c1] U) (l : Blk V E #[x, y, z] T') (hb : Below V.heap.size V X) :
    X.cell? ⟨B, 0, none⟩ = some a0 ∧ X.cell? ⟨C, 0, none⟩ = some c0 ∧ X.cell? ⟨C, 1, none⟩ = some c1 ∧ X.cell? ⟨E, 0, none⟩ = some x ∧ X.cell? ⟨E, 1, none⟩ = some y ∧ X.cell? ⟨E, 2, none⟩ = some z :=
  ⟨(h.to hb).cell0 rfl, (k.to hb).cell0 rfl, (k.to hb).cell0 rfl, (l.to hb).cell0 rfl, (l.to hb).cell0 rfl, (l.to hb).cell0 rfl⟩
def sop0 : Oper :=
  { dst := some 47, op := Go.Op.move (Go.Operand.tmp 7), type := 4, pos := "laws.go:218", after := #[], guard := none }
def sop1 : Oper :=
  { dst := some 48, op := Go.Op.unOp Go.UnOp.not 4 (Go.Operand.tmp 47), type := 4, pos := "laws.go:218", after := #[{ on := 0, ground := Go.Ground.data }], guard := none }
def sop2 : Oper :=
  { dst := some 49, op := Go.Op.move (Go.Operand.tmp 48), type := 4, pos := "laws.go:218", after := #[{ on := 1, ground := Go.Ground.data }], guard := none }
def sop3 : Oper :=
  { dst := some 50, op := Go.Op.move (Go.Operand.tmp 11), type := 4, pos := "laws.go:218", after := #[{ on := 2, ground := Go.Ground.guard }], guard := some (2, false) }
def sop4 : Oper :=
  { dst := some 51, op := Go.Op.unOp Go.UnOp.not 4 (Go.Operand.tmp 50), type := 4, pos := "laws.go:218", after := #[{ on := 3, ground := Go.Ground.data }, { on := 2, ground := Go.Ground.guard }], guard := some (2, false) }
def sop5 : Oper :=
  { dst := some 52, op := Go.Op.pick (Go.Operand.tmp 49) (Go.Operand.const (Go.Value.bool true)) (Go.Operand.tmp 51), type := 4, pos := "laws.go:218", after := #[{ on := 2, ground := Go.Ground.data }, { on := 4, ground := Go.Ground.data }], guard := none }
def sop6 : Oper :=
  { dst := some 53, op := Go.Op.move (Go.Operand.tmp 52), type := 4, pos := "laws.go:218", after := #[{ on := 5, ground := Go.Ground.data }, { on := 2, ground := Go.Ground.chain }], guard := none }
def sop7 : Oper :=
  { dst := some 54, op := Go.Op.move (Go.Operand.tmp 8), type := 3, pos := "laws.go:218", after := #[{ on := 6, ground := Go.Ground.guard }], guard := some (6, false) }
def sop8 : Oper :=
  { dst := some 55, op := Go.Op.binOp Go.BinOp.lss 3 (Go.Operand.tmp 54) (Go.Operand.const (Go.Value.int Go.IntKind.i64 0)) 3, type := 4, pos := "laws.go:218", after := #[{ on := 7, ground := Go.Ground.data }, { on := 6, ground := Go.Ground.guard }], guard := some (6, false) }
def sop9 : Oper :=
  { dst := some 56, op := Go.Op.pick (Go.Operand.tmp 53) (Go.Operand.const (Go.Value.bool true)) (Go.Operand.tmp 55), type := 4, pos := "laws.go:218", after := #[{ on := 6, ground := Go.Ground.data }, { on := 8, ground := Go.Ground.data }], guard := none }
def sop10 : Oper :=
  { dst := some 57, op := Go.Op.move (Go.Operand.tmp 56), type := 4, pos := "laws.go:218", after := #[{ on := 9, ground := Go.Ground.data }, { on := 6, ground := Go.Ground.chain }], guard := none }
def sop11 : Oper :=
  { dst := some 58, op := Go.Op.move (Go.Operand.tmp 8), type := 3, pos := "laws.go:218", after := #[{ on := 10, ground := Go.Ground.guard }], guard := some (10, false) }
def sop12 : Oper :=
  { dst := some 59, op := Go.Op.move (Go.Operand.tmp 9), type := 27, pos := "laws.go:218", after := #[{ on := 10, ground := Go.Ground.guard }], guard := some (10, false) }
def sop13 : Oper :=
  { dst := some 60, op := Go.Op.call { callee := Go.Callee.builtin Go.Builtin.len, args := #[Go.Operand.tmp 59], argTypes := #[27] }, type := 3, pos := "laws.go:218", after := #[{ on := 12, ground := Go.Ground.data }, { on := 10, ground := Go.Ground.guard }], guard := some (10, false) }
def sop14 : Oper :=
  { dst := some 61, op := Go.Op.binOp Go.BinOp.geq 3 (Go.Operand.tmp 58) (Go.Operand.tmp 60) 3, type := 4, pos := "laws.go:218", after := #[{ on := 11, ground := Go.Ground.data }, { on := 13, ground := Go.Ground.data }, { on := 10, ground := Go.Ground.guard }], guard := some (10, false) }
def sop15 : Oper :=
  { dst := some 62, op := Go.Op.pick (Go.Operand.tmp 57) (Go.Operand.const (Go.Value.bool true)) (Go.Operand.tmp 61), type := 4, pos := "laws.go:218", after := #[{ on := 10, ground := Go.Ground.data }, { on := 14, ground := Go.Ground.data }], guard := none }
def sop16 : Oper :=
  { dst := some 63, op := Go.Op.move (Go.Operand.tmp 62), type := 4, pos := "laws.go:218", after := #[{ on := 15, ground := Go.Ground.data }, { on := 10, ground := Go.Ground.chain }], guard := none }
def sop17 : Oper :=
  { dst := some 64, op := Go.Op.fieldAddr 49 (Go.Operand.tmp 10) 0, type := 0, pos := "laws.go:218", after := #[{ on := 16, ground := Go.Ground.guard }], guard := some (16, false) }
def sop18 : Oper :=
  { dst := some 65, op := Go.Op.load 3 (Go.Operand.tmp 64), type := 3, pos := "laws.go:218", after := #[{ on := 17, ground := Go.Ground.data }, { on := 16, ground := Go.Ground.guard }], guard := some (16, false) }
def sop19 : Oper :=
  { dst := some 66, op := Go.Op.binOp Go.BinOp.lss 3 (Go.Operand.tmp 65) (Go.Operand.const (Go.Value.int Go.IntKind.i64 0)) 3, type := 4, pos := "laws.go:218", after := #[{ on := 18, ground := Go.Ground.data }, { on := 16, ground := Go.Ground.guard }], guard := some (16, false) }
def sop20 : Oper :=
  { dst := some 67, op := Go.Op.pick (Go.Operand.tmp 63) (Go.Operand.const (Go.Value.bool true)) (Go.Operand.tmp 66), type := 4, pos := "laws.go:218", after := #[{ on := 16, ground := Go.Ground.data }, { on := 19, ground := Go.Ground.data }], guard := none }
def sop21 : Oper :=
  { dst := some 68, op := Go.Op.move (Go.Operand.tmp 67), type := 4, pos := "laws.go:218", after := #[{ on := 20, ground := Go.Ground.data }, { on := 16, ground := Go.Ground.chain }], guard := none }
def sop22 : Oper :=
  { dst := some 69, op := Go.Op.fieldAddr 49 (Go.Operand.tmp 10) 0, type := 0, pos := "laws.go:218", after := #[{ on := 21, ground := Go.Ground.guard }], guard := some (21, false) }
def sop23 : Oper :=
  { dst := some 70, op := Go.Op.load 3 (Go.Operand.tmp 69), type := 3, pos := "laws.go:218", after := #[{ on := 22, ground := Go.Ground.data }, { on := 21, ground := Go.Ground.guard }], guard := some (21, false) }
def sop24 : Oper :=
  { dst := some 71, op := Go.Op.binOp Go.BinOp.eql 3 (Go.Operand.tmp 70) (Go.Operand.const (Go.Value.int Go.IntKind.i64 0)) 3, type := 4, pos := "laws.go:218", after := #[{ on := 23, ground := Go.Ground.data }, { on := 21, ground := Go.Ground.guard }], guard := some (21, false) }
def sop25 : Oper :=
  { dst := some 72, op := Go.Op.move (Go.Operand.tmp 4), type := 3, pos := "laws.go:218", after := #[{ on := 21, ground := Go.Ground.guard }], guard := some (21, false) }
def sop26 : Oper :=
  { dst := some 73, op := Go.Op.binOp Go.BinOp.eql 3 (Go.Operand.tmp 72) (Go.Operand.const (Go.Value.int Go.IntKind.i64 0)) 3, type := 4, pos := "laws.go:218", after := #[{ on := 25, ground := Go.Ground.data }, { on := 21, ground := Go.Ground.guard }], guard := some (21, false) }
def sop27 : Oper :=
  { dst := some 74, op := Go.Op.move (Go.Operand.tmp 73), type := 4, pos := "laws.go:218", after := #[{ on := 26, ground := Go.Ground.data }, { on := 21, ground := Go.Ground.chain }, { on := 21, ground := Go.Ground.guard }], guard := some (21, false) }
def sop28 : Oper :=
  { dst := some 75, op := Go.Op.move (Go.Operand.tmp 5), type := 3, pos := "laws.go:218", after := #[{ on := 27, ground := Go.Ground.guard }], guard := some (27, true) }
def sop29 : Oper :=
  { dst := some 76, op := Go.Op.binOp Go.BinOp.eql 3 (Go.Operand.tmp 75) (Go.Operand.const (Go.Value.int Go.IntKind.i64 0)) 3, type := 4, pos := "laws.go:218", after := #[{ on := 28, ground := Go.Ground.data }, { on := 27, ground := Go.Ground.guard }], guard := some (27, true) }
def sop30 : Oper :=
  { dst := some 77, op := Go.Op.pick (Go.Operand.tmp 74) (Go.Operand.tmp 76) (Go.Operand.const (Go.Value.bool false)), type := 4, pos := "laws.go:218", after := #[{ on := 27, ground := Go.Ground.data }, { on := 29, ground := Go.Ground.data }, { on := 21, ground := Go.Ground.guard }], guard := some (21, false) }
def sop31 : Oper :=
  { dst := some 78, op := Go.Op.binOp Go.BinOp.neq 4 (Go.Operand.tmp 71) (Go.Operand.tmp 77) 4, type := 4, pos := "laws.go:218", after := #[{ on := 24, ground := Go.Ground.data }, { on := 30, ground := Go.Ground.data }, { on := 21, ground := Go.Ground.guard }], guard := some (21, false) }
def sop32 : Oper :=
  { dst := some 79, op := Go.Op.pick (Go.Operand.tmp 68) (Go.Operand.const (Go.Value.bool true)) (Go.Operand.tmp 78), type := 4, pos := "laws.go:218", after := #[{ on := 21, ground := Go.Ground.data }, { on := 31, ground := Go.Ground.data }], guard := none }
def sop33 : Oper :=
  { dst := some 80, op := Go.Op.move (Go.Operand.tmp 79), type := 4, pos := "laws.go:218", after := #[{ on := 32, ground := Go.Ground.data }, { on := 27, ground := Go.Ground.chain }], guard := none }
def sop34 : Oper :=
  { dst := some 81, op := Go.Op.move (Go.Operand.tmp 4), type := 3, pos := "laws.go:218", after := #[{ on := 33, ground := Go.Ground.guard }], guard := some (33, false) }
def sop35 : Oper :=
  { dst := some 82, op := Go.Op.move (Go.Operand.tmp 9), type := 27, pos := "laws.go:218", after := #[{ on := 33, ground := Go.Ground.guard }], guard := some (33, false) }
def sop36 : Oper :=
  { dst := some 83, op := Go.Op.move (Go.Operand.tmp 8), type := 3, pos := "laws.go:218", after := #[{ on := 33, ground := Go.Ground.guard }], guard := some (33, false) }
def sop37 : Oper :=
  { dst := some 84, op := Go.Op.indexAddr 27 (Go.Operand.tmp 82) (Go.Operand.tmp 83), type := 0, pos := "laws.go:218", after := #[{ on := 35, ground := Go.Ground.data }, { on := 36, ground := Go.Ground.data }, { on := 33, ground := Go.Ground.guard }], guard := some (33, false) }
def sop38 : Oper :=
  { dst := some 85, op := Go.Op.fieldAddr 31 (Go.Operand.tmp 84) 0, type := 0, pos := "laws.go:218", after := #[{ on := 37, ground := Go.Ground.data }, { on := 33, ground := Go.Ground.guard }], guard := some (33, false) }
def sop39 : Oper :=
  { dst := some 86, op := Go.Op.load 3 (Go.Operand.tmp 85), type := 3, pos := "laws.go:218", after := #[{ on := 38, ground := Go.Ground.data }, { on := 33, ground := Go.Ground.guard }], guard := some (33, false) }
def sop40 : Oper :=
  { dst := some 87, op := Go.Op.binOp Go.BinOp.mul 3 (Go.Operand.tmp 81) (Go.Operand.tmp 86) 3, type := 3, pos := "laws.go:218", after := #[{ on := 34, ground := Go.Ground.data }, { on := 39, ground := Go.Ground.data }, { on := 33, ground := Go.Ground.guard }], guard := some (33, false) }
def sop41 : Oper :=
  { dst := some 88, op := Go.Op.move (Go.Operand.tmp 5), type := 3, pos := "laws.go:218", after := #[{ on := 33, ground := Go.Ground.guard }], guard := some (33, false) }
def sop42 : Oper :=
  { dst := some 89, op := Go.Op.move (Go.Operand.tmp 9), type := 27, pos := "laws.go:218", after := #[{ on := 33, ground := Go.Ground.guard }], guard := some (33, false) }
def sop43 : Oper :=
  { dst := some 90, op := Go.Op.move (Go.Operand.tmp 8), type := 3, pos := "laws.go:218", after := #[{ on := 33, ground := Go.Ground.guard }], guard := some (33, false) }
def sop44 : Oper :=
  { dst := some 91, op := Go.Op.indexAddr 27 (Go.Operand.tmp 89) (Go.Operand.tmp 90), type := 0, pos := "laws.go:218", after := #[{ on := 42, ground := Go.Ground.data }, { on := 43, ground := Go.Ground.data }, { on := 33, ground := Go.Ground.guard }], guard := some (33, false) }
def sop45 : Oper :=
  { dst := some 92, op := Go.Op.fieldAddr 31 (Go.Operand.tmp 91) 1, type := 0, pos := "laws.go:218", after := #[{ on := 44, ground := Go.Ground.data }, { on := 33, ground := Go.Ground.guard }], guard := some (33, false) }
def sop46 : Oper :=
  { dst := some 93, op := Go.Op.load 3 (Go.Operand.tmp 92), type := 3, pos := "laws.go:218", after := #[{ on := 45, ground := Go.Ground.data }, { on := 33, ground := Go.Ground.guard }], guard := some (33, false) }
def sop47 : Oper :=
  { dst := some 94, op := Go.Op.binOp Go.BinOp.mul 3 (Go.Operand.tmp 88) (Go.Operand.tmp 93) 3, type := 3, pos := "laws.go:218", after := #[{ on := 41, ground := Go.Ground.data }, { on := 46, ground := Go.Ground.data }, { on := 33, ground := Go.Ground.guard }], guard := some (33, false) }
def sop48 : Oper :=
  { dst := some 95, op := Go.Op.binOp Go.BinOp.add 3 (Go.Operand.tmp 87) (Go.Operand.tmp 94) 3, type := 3, pos := "laws.go:218", after := #[{ on := 40, ground := Go.Ground.data }, { on := 47, ground := Go.Ground.data }, { on := 33, ground := Go.Ground.guard }], guard := some (33, false) }
def sop49 : Oper :=
  { dst := some 96, op := Go.Op.move (Go.Operand.tmp 9), type := 27, pos := "laws.go:218", after := #[{ on := 33, ground := Go.Ground.guard }], guard := some (33, false) }
def sop50 : Oper :=
  { dst := some 97, op := Go.Op.move (Go.Operand.tmp 8), type := 3, pos := "laws.go:218", after := #[{ on := 33, ground := Go.Ground.guard }], guard := some (33, false) }
def sop51 : Oper :=
  { dst := some 98, op := Go.Op.indexAddr 27 (Go.Operand.tmp 96) (Go.Operand.tmp 97), type := 0, pos := "laws.go:218", after := #[{ on := 49, ground := Go.Ground.data }, { on := 50, ground := Go.Ground.data }, { on := 33, ground := Go.Ground.guard }], guard := some (33, false) }
def sop52 : Oper :=
  { dst := some 99, op := Go.Op.fieldAddr 31 (Go.Operand.tmp 98) 2, type := 0, pos := "laws.go:218", after := #[{ on := 51, ground := Go.Ground.data }, { on := 33, ground := Go.Ground.guard }], guard := some (33, false) }
def sop53 : Oper :=
  { dst := some 100, op := Go.Op.load 3 (Go.Operand.tmp 99), type := 3, pos := "laws.go:218", after := #[{ on := 52, ground := Go.Ground.data }, { on := 33, ground := Go.Ground.guard }], guard := some (33, false) }
def sop54 : Oper :=
  { dst := some 101, op := Go.Op.call { callee := Go.Callee.value (Go.Operand.func 29), args := #[Go.Operand.tmp 95, Go.Operand.tmp 100], argTypes := #[3, 3] }, type := 49, pos := "laws.go:218", after := #[{ on := 48, ground := Go.Ground.data }, { on := 53, ground := Go.Ground.data }, { on := 33, ground := Go.Ground.chain }, { on := 33, ground := Go.Ground.guard }], guard := some (33, false) }
def sop55 : Oper :=
  { dst := some 102, op := Go.Op.load 49 (Go.Operand.tmp 6), type := 49, pos := "laws.go:218", after := #[{ on := 33, ground := Go.Ground.guard }], guard := some (33, false) }
def sop56 : Oper :=
  { dst := some 103, op := Go.Op.binOp Go.BinOp.neq 49 (Go.Operand.tmp 101) (Go.Operand.tmp 102) 49, type := 4, pos := "laws.go:218", after := #[{ on := 54, ground := Go.Ground.data }, { on := 55, ground := Go.Ground.data }, { on := 33, ground := Go.Ground.guard }], guard := some (33, false) }
def sop57 : Oper :=
  { dst := some 104, op := Go.Op.pick (Go.Operand.tmp 80) (Go.Operand.const (Go.Value.bool true)) (Go.Operand.tmp 103), type := 4, pos := "laws.go:218", after := #[{ on := 33, ground := Go.Ground.data }, { on := 56, ground := Go.Ground.data }], guard := none }
def sor0 : Oper :=
  { dst := some 114, op := Go.Op.load 25 (Go.Operand.tmp 3), type := 25, pos := "laws.go:223", after := #[], guard := none }
def sor1 : Oper :=
  { dst := some 115, op := Go.Op.load 31 (Go.Operand.tmp 13), type := 31, pos := "laws.go:223", after := #[], guard := none }
def sor2 : Oper :=
  { dst := some 116, op := Go.Op.call { callee := Go.Callee.value (Go.Operand.func 13), args := #[Go.Operand.tmp 114, Go.Operand.tmp 115], argTypes := #[25, 31] }, type := 4, pos := "laws.go:223", after := #[{ on := 0, ground := Go.Ground.data }, { on := 1, ground := Go.Ground.data }], guard := none }
def sor3 : Oper :=
  { dst := some 117, op := Go.Op.move (Go.Operand.tmp 116), type := 4, pos := "laws.go:223", after := #[{ on := 2, ground := Go.Ground.data }, { on := 2, ground := Go.Ground.chain }], guard := none }
def sor4 : Oper :=
  { dst := some 118, op := Go.Op.move (Go.Operand.tmp 4), type := 3, pos := "laws.go:223", after := #[{ on := 3, ground := Go.Ground.guard }], guard := some (3, true) }
def sor5 : Oper :=
  { dst := some 119, op := Go.Op.fieldAddr 31 (Go.Operand.tmp 13) 0, type := 0, pos := "laws.go:223", after := #[{ on := 3, ground := Go.Ground.guard }], guard := some (3, true) }
def sor6 : Oper :=
  { dst := some 120, op := Go.Op.load 3 (Go.Operand.tmp 119), type := 3, pos := "laws.go:223", after := #[{ on := 5, ground := Go.Ground.data }, { on := 3, ground := Go.Ground.guard }], guard := some (3, true) }
def sor7 : Oper :=
  { dst := some 121, op := Go.Op.binOp Go.BinOp.mul 3 (Go.Operand.tmp 118) (Go.Operand.tmp 120) 3, type := 3, pos := "laws.go:223", after := #[{ on := 4, ground := Go.Ground.data }, { on := 6, ground := Go.Ground.data }, { on := 3, ground := Go.Ground.guard }], guard := some (3, true) }
def sor8 : Oper :=
  { dst := some 122, op := Go.Op.move (Go.Operand.tmp 5), type := 3, pos := "laws.go:223", after := #[{ on := 3, ground := Go.Ground.guard }], guard := some (3, true) }
def sor9 : Oper :=
  { dst := some 123, op := Go.Op.fieldAddr 31 (Go.Operand.tmp 13) 1, type := 0, pos := "laws.go:223", after := #[{ on := 3, ground := Go.Ground.guard }], guard := some (3, true) }
def sor10 : Oper :=
  { dst := some 124, op := Go.Op.load 3 (Go.Operand.tmp 123), type := 3, pos := "laws.go:223", after := #[{ on := 9, ground := Go.Ground.data }, { on := 3, ground := Go.Ground.guard }], guard := some (3, true) }
def sor11 : Oper :=
  { dst := some 125, op := Go.Op.binOp Go.BinOp.mul 3 (Go.Operand.tmp 122) (Go.Operand.tmp 124) 3, type := 3, pos := "laws.go:223", after := #[{ on := 8, ground := Go.Ground.data }, { on := 10, ground := Go.Ground.data }, { on := 3, ground := Go.Ground.guard }], guard := some (3, true) }
def sor12 : Oper :=
  { dst := some 126, op := Go.Op.binOp Go.BinOp.add 3 (Go.Operand.tmp 121) (Go.Operand.tmp 125) 3, type := 3, pos := "laws.go:223", after := #[{ on := 7, ground := Go.Ground.data }, { on := 11, ground := Go.Ground.data }, { on := 3, ground := Go.Ground.guard }], guard := some (3, true) }
def sor13 : Oper :=
  { dst := some 127, op := Go.Op.call { callee := Go.Callee.value (Go.Operand.func 29), args := #[Go.Operand.tmp 126, Go.Operand.const (Go.Value.int Go.IntKind.i64 1)], argTypes := #[3, 3] }, type := 49, pos := "laws.go:223", after := #[{ on := 12, ground := Go.Ground.data }, { on := 3, ground := Go.Ground.chain }, { on := 3, ground := Go.Ground.guard }], guard := some (3, true) }
def sor14 : Oper :=
  { dst := some 128, op := Go.Op.load 49 (Go.Operand.tmp 6), type := 49, pos := "laws.go:223", after := #[{ on := 3, ground := Go.Ground.guard }], guard := some (3, true) }
def sor15 : Oper :=
  { dst := some 129, op := Go.Op.call { callee := Go.Callee.value (Go.Operand.func 30), args := #[Go.Operand.tmp 127, Go.Operand.tmp 128], argTypes := #[49, 49] }, type := 3, pos := "laws.go:223", after := #[{ on := 13, ground := Go.Ground.data }, { on := 14, ground := Go.Ground.data }, { on := 13, ground := Go.Ground.chain }, { on := 3, ground := Go.Ground.guard }], guard := some (3, true) }
def sor16 : Oper :=
  { dst := some 130, op := Go.Op.binOp Go.BinOp.gtr 3 (Go.Operand.tmp 129) (Go.Operand.const (Go.Value.int Go.IntKind.i64 0)) 3, type := 4, pos := "laws.go:223", after := #[{ on := 15, ground := Go.Ground.data }, { on := 3, ground := Go.Ground.guard }], guard := some (3, true) }
def sor17 : Oper :=
  { dst := some 131, op := Go.Op.pick (Go.Operand.tmp 117) (Go.Operand.tmp 130) (Go.Operand.const (Go.Value.bool false)), type := 4, pos := "laws.go:223", after := #[{ on := 3, ground := Go.Ground.data }, { on := 16, ground := Go.Ground.data }], guard := none }
set_option maxRecDepth 100000 in
set_option maxHeartbeats 6400000 in
theorem law_supports (a : Option Addr) (len cap : Nat) (w : World) (_hm : len ≤ maxLen) (hB : BytesAt w a len) :
    Calls Try.prog 5 #[.slice a len cap] w fun e w' => e = .returned (.bool true) ∧ Below w.heap.size w w' := by
  by_cases hle : (1048576 : Int) < (len : Int)
  · go_enter Try.func5, Try.ntmps5
    go_wp2
    go_ret
    exact ⟨rfl, Below.refl _ _⟩
  have HB := Lib.hid hB
  have hl : len ≤ 1048576 := by omega
  clear hB
  go_enter Try.func5, Try.ntmps5
  go_wp2_with fail
  refine (make_area w a len cap 1 (by omega) hl HB.out).mono ?_
  rintro e w1 ⟨ps, x, y, u, v, ap, cp, hAF, rfl, ho1, bl⟩
  have HFps := Lib.hid hAF
  have Hps0 := Lib.hid (own_hs ho1)
  have HZps := Lib.hid (own_nil ho1)
  clear hAF ho1
  obtain ⟨p, hp⟩ : ∃ p, ps.length = p := ⟨_, rfl⟩
  rw [hp] at HZps ⊢
  have HLps := Lib.hid hp
  clear hp
  have b0 := bl
  clear bl
  have hA := HFps.out
  have HR := Lib.hid hA.1
  have HN := Lib.hid hA.2.1
  have hpl : p ≤ 10 := by have := hA.2.2.1; have := HLps.out; omega
  have H64 := Lib.hid (fun h hh => ok_in64 (rok_all hA.1 h hh))
  clear hA
  have bN := below_one w1 (.cells #[.slice ap p cp] 25)
  have BP0 := blk_new w1 #[.slice ap p cp] 25 rfl
  have b_1 := below_to b0 bN
  have Hps_2 := Lib.hid (Hps0.out.below bN)
  clear b0 Hps0
  clear bN
  go_wp2_with fail
  generalize w1.alloc (.cells #[.slice ap p cp] 25) = U1 at *
  obtain ⟨bp, hbk⟩ : ∃ b, w1.heap.size = b := ⟨_, rfl⟩
  rw [hbk] at BP0 ⊢
  clear hbk
  refine (make_num U1 a len cap 40 (by omega) hl (HB.out.below b_1)).mono ?_
  rintro e w2 ⟨n1, hn1, rfl, bl⟩
  have rn1 := rem_in (n := 21) (by omega) hn1
  clear hn1
  have b_3 := below_to b_1 bl
  have Hps_4 := Lib.hid (Hps_2.out.below bl)
  have BP_5 := BP0.to bl
  clear b_1 Hps_2 BP0
  clear bl
  go_wp2_with fail
  refine (make_num w2 a len cap 42 (by omega) hl (HB.out.below b_3)).mono ?_
  rintro e w3 ⟨n2, hn2, rfl, bl⟩
  have rn2 := rem_in (n := 21) (by omega) hn2
  clear hn2
  have b_6 := below_to b_3 bl
  have Hps_7 := Lib.hid (Hps_4.out.below bl)
  have BP_8 := BP_5.to bl
  clear b_3 Hps_4 BP_5
  clear bl
  have hA : -10 ≤ n1.tmod 21 - 10 ∧ n1.tmod 21 - 10 ≤ 10 := by omega
  have hB : -10 ≤ n2.tmod 21 - 10 ∧ n2.tmod 21 - 10 ≤ 10 := by omega
  have q0 := BP_8.cell0 (i := 0) rfl
  go_wp2_with fail
  clear q0
  clear rn1 rn2
  generalize n1.tmod 21 - 10 = A at *
  generalize n2.tmod 21 - 10 = B at *
  obtain ⟨j, N, D, hj, hsB, hsR, eN, eD, okT, hD, hNb, hin, _, _⟩ := sup_facts HFps.out hA hB
  obtain ⟨wB, wP, wZ⟩ := wid_facts HFps.out hA hB
  have HEN := Lib.hid eN
  have HED := Lib.hid eD
  have HOT := Lib.hid okT
  have HIN := Lib.hid hin
  have HWZ := Lib.hid wZ
  clear eN eD okT hin wZ
  have hjp : j < p := by have := HLps.out; omega
  have HSU := Lib.hid (fun V (h : HsAt V ap ps) => impl_sup ap p cp ps A B V HLps.out (by omega) H64.out h)
  have HFK := Lib.hid (fun V (h : HsAt V ap ps) => impl_fk ap p cp ps A B V HLps.out (by omega) H64.out h)
  have HWI := Lib.hid (fun V (h : HsAt V ap ps) => impl_wid ap p cp ps A B V HLps.out (by omega) H64.out h)
  have HCO := Lib.hid (fun V (h : HsAt V ap ps) => impl_cor ap p cp ps V HLps.out (by omega) H64.out h)
  have hfk : fkA A B ps = (j : Int) := by unfold fkA; rw [if_pos hsB, hsR]
  rw [hsB, hsR] at HSU
  rw [hfk] at HFK
  rw [wB] at HWI
  rw [cor_pos HLps.out HR.out] at HCO
  have hcl := corL_len ps p
  have HXJ := Lib.hid (corL_get ps hjp)
  generalize hWN : wdN A B ps = wN at *
  generalize wdD A B ps = wD at *
  generalize corL ps p = cs at *
  simp only at HSU
  clear hsB hsR wB hfk
  refine (HSU.out _ Hps_7.out).mono ?_
  rintro e v1 ⟨rfl, bl⟩
  have b_9 := below_to b_6 bl
  have Hps_10 := Lib.hid (Hps_7.out.below bl)
  have BP_11 := BP_8.to bl
  clear b_6 Hps_7 BP_8
  clear bl
  have bN := below_one v1 (.cells #[.int .i64 N, .int .i64 D] 49)
  have BT0 := blk_new v1 #[.int .i64 N, .int .i64 D] 49 rfl
  have b_12 := below_to b_9 bN
  have Hps_13 := Lib.hid (Hps_10.out.below bN)
  have BP_14 := BP_11.to bN
  clear b_9 Hps_10 BP_11
  clear bN
  have q0 := BP_14.cell0 (i := 0) rfl
  go_wp2_with fail
  clear q0
  generalize v1.alloc (.cells #[.int .i64 N, .int .i64 D] 49) = U2 at *
  obtain ⟨bt, hbk⟩ : ∃ b, v1.heap.size = b := ⟨_, rfl⟩
  rw [hbk] at BT0 ⊢
  clear hbk
  refine (HFK.out _ Hps_13.out).mono ?_
  rintro e v2 ⟨rfl, bl⟩
  have b_15 := below_to b_12 bl
  have Hps_16 := Lib.hid (Hps_13.out.below bl)
  have BP_17 := BP_14.to bl
  have BT_18 := BT0.to bl
  clear b_12 Hps_13 BP_14 BT0
  clear bl
  have q0 := BP_17.cell0 (i := 0) rfl
  go_wp2_with fail
  clear q0
  refine (HCO.out _ Hps_16.out).mono ?_
  rintro e w4 ⟨ac, cc, rfl, ho4, bl⟩
  have HCS0 := Lib.hid (own_hs ho4)
  clear ho4
  have b_19 := below_to b_15 bl
  have Hps_20 := Lib.hid (Hps_16.out.below bl)
  have BP_21 := BP_17.to bl
  have BT_22 := BT_18.to bl
  clear b_15 Hps_16 BP_17 BT_18
  clear bl
  have q0 := BP_21.cell0 (i := 0) rfl
  go_wp2_with fail
  clear q0
  refine (HWI.out _ Hps_20.out).mono ?_
  rintro e v3 ⟨rfl, bl⟩
  have b_23 := below_to b_19 bl
  have Hps_24 := Lib.hid (Hps_20.out.below bl)
  have BP_25 := BP_21.to bl
  have BT_26 := BT_22.to bl
  have HCS_27 := Lib.hid (HCS0.out.below bl)
  clear b_19 Hps_20 BP_21 BT_22 HCS0
  clear bl
  clear HSU HFK HCO HWI
  clear hcl
  have bN := below_one v3 (.cells #[.int .i64 wN, .int .i64 wD] 49)
  have BW0 := blk_new v3 #[.int .i64 wN, .int .i64 wD] 49 rfl
  have b_28 := below_to b_23 bN
  have Hps_29 := Lib.hid (Hps_24.out.below bN)
  have BP_30 := BP_25.to bN
  have BT_31 := BT_26.to bN
  have HCS_32 := Lib.hid (HCS_27.out.below bN)
  clear b_23 Hps_24 BP_25 BT_26 HCS_27
  clear bN
  go_wp2_with fail
  generalize v3.alloc (.cells #[.int .i64 wN, .int .i64 wD] 49) = U3 at *
  obtain ⟨bw, hbk⟩ : ∃ b, v3.heap.size = b := ⟨_, rfl⟩
  rw [hbk] at BW0 ⊢
  clear hbk
  obtain ⟨g, o, rfl, hcx⟩ := HCS_32.out j _ HXJ.out
  have hok := (cnr_facts HR.out HN.out hj).1
  have hA5 : In5 A := ⟨by omega, by omega⟩
  have hB5 : In5 B := ⟨by omega, by omega⟩
  have HRQ := Lib.hid (fun V => impl_va hA5 hB5 hok V)
  rw [← HEN.out, ← HED.out] at HRQ
  obtain ⟨m1, m2, m3, m4⟩ := va_in hA5 hB5 hok
  clear hok hA5 hB5
  generalize (crA ps j).a = X at *
  generalize (crA ps j).b = Y at *
  generalize (crA ps j).c = C at *
  obtain ⟨u, hu⟩ : ∃ u, A * X = u := ⟨_, rfl⟩
  obtain ⟨t, ht⟩ : ∃ u, B * Y = u := ⟨_, rfl⟩
  rw [hu] at m1 HRQ
  rw [ht] at m2 HRQ
  clear HEN HED
  clear HCS_32
  have xu : IntKind.i64.wrap u = u := IntWalk.i64_in _ (by omega)
  have xt : IntKind.i64.wrap t = t := IntWalk.i64_in _ (by omega)
  have xs : IntKind.i64.wrap (u + t) = u + t := IntWalk.i64_in _ (by omega)
  go_cut [104] from 47 to 104 (fun s6 wx => s6 = .bool false ∧ Below U3.heap.size U3 wx)
  case first =>
    have hg1 : decide (p ≤ j) = false := decide_eq_false (by omega)
    have hg2 : decide (wN < 0) = false := decide_eq_false (by omega)
    have hg3 : decide ((j : Int) < 0) = false := decide_eq_false (by omega)
    by_cases hA0 : A = 0
    · by_cases hB0 : B = 0
      · have hw0 : (wN == 0) = true := by have := HWZ.out.2 ⟨hA0, hB0⟩; simpa using this
        have ha0 : (A == 0) = true := by simpa using hA0
        have hb0 : (B == 0) = true := by simpa using hB0
        clear hA0 hB0
        refine wp_region_held_drew (S := (fun w' => w'.cell? ⟨bw, 0, none⟩ = some (.int .i64 wN) ∧ w'.cell? ⟨bw, 1, none⟩ = some (.int .i64 wD) ∧ w'.cell? ⟨bt, 0, none⟩ = some (.int .i64 N) ∧ w'.cell? ⟨bt, 1, none⟩ = some (.int .i64 D) ∧ w'.cell? ⟨g, o + j * 3, none⟩ = some (.int .i64 X) ∧ w'.cell? ⟨g, o + j * 3 + 1, none⟩ = some (.int .i64 Y) ∧ w'.cell? ⟨g, o + j * 3 + 2, none⟩ = some (.int .i64 C))) (by kernel_rfl) ?_ (fun hHeld => ?_)
        · (refine keep7 BW0 BT_31 hcx ?_; repeat (first | exact Below.refl _ _ | refine below_drw ?_ | refine below_to ?_ (by assumption)))
        refine wpAnyH_take (i := 0) (oi := sop0) (v := ?_) rfl (by as_aux_lemma => kernel_rfl) (by as_aux_lemma => kernel_rfl) (by as_aux_lemma => kernel_rfl) (fun _ _ _ h => h) (Or.inl ⟨by rfl, ?_⟩) (by assumption) ?_
        rotate_left
        · unfold sop0; intro w hSw; (try dsimp only at hSw); go_simp; try (with_reducible rfl)
        try simp only [sop0, Act.put, List.setIfInBounds_toArray, List.set_cons_zero, List.set_cons_succ]
        refine wpAnyH_take (i := 1) (oi := sop1) (v := ?_) rfl (by as_aux_lemma => kernel_rfl) (by as_aux_lemma => kernel_rfl) (by as_aux_lemma => kernel_rfl) (fun _ _ _ h => h) (Or.inl ⟨by rfl, ?_⟩) (by assumption) ?_
        rotate_left
        · unfold sop1; intro w hSw; (try dsimp only at hSw); go_simp; try (with_reducible rfl)
        try simp only [sop1, Act.put, List.setIfInBounds_toArray, List.set_cons_zero, List.set_cons_succ]
        refine wpAnyH_take (i := 2) (oi := sop2) (v := ?_) rfl (by as_aux_lemma => kernel_rfl) (by as_aux_lemma => kernel_rfl) (by as_aux_lemma => kernel_rfl) (fun _ _ _ h => h) (Or.inl ⟨by rfl, ?_⟩) (by assumption) ?_
        rotate_left
        · unfold sop2; intro w hSw; (try dsimp only at hSw); go_simp; try (with_reducible rfl)
        try simp only [sop2, Act.put, List.setIfInBounds_toArray, List.set_cons_zero, List.set_cons_succ]
        refine wpAnyH_take (i := 3) (oi := sop3) (v := ?_) rfl (by as_aux_lemma => kernel_rfl) (by as_aux_lemma => kernel_rfl) (by as_aux_lemma => kernel_rfl) (fun _ _ _ h => h) (Or.inl ⟨by rfl, ?_⟩) (by assumption) ?_
        rotate_left
        · unfold sop3; intro w hSw; (try dsimp only at hSw); go_simp; try (with_reducible rfl)
        try simp only [sop3, Act.put, List.setIfInBounds_toArray, List.set_cons_zero, List.set_cons_succ]
        refine wpAnyH_take (i := 4) (oi := sop4) (v := ?_) rfl (by as_aux_lemma => kernel_rfl) (by as_aux_lemma => kernel_rfl) (by as_aux_lemma => kernel_rfl) (fun _ _ _ h => h) (Or.inl ⟨by rfl, ?_⟩) (by assumption) ?_
        rotate_left
        · unfold sop4; intro w hSw; (try dsimp only at hSw); go_simp; try (with_reducible rfl)
        try simp only [sop4, Act.put, List.setIfInBounds_toArray, List.set_cons_zero, List.set_cons_succ]
        refine wpAnyH_take (i := 5) (oi := sop5) (v := ?_) rfl (by as_aux_lemma => kernel_rfl) (by as_aux_lemma => kernel_rfl) (by as_aux_lemma => kernel_rfl) (fun _ _ _ h => h) (Or.inl ⟨by rfl, ?_⟩) (by assumption) ?_
        rotate_left
        · unfold sop5; intro w hSw; (try dsimp only at hSw); go_simp; try (with_reducible rfl)
        try simp only [sop5, Act.put, List.setIfInBounds_toArray, List.set_cons_zero, List.set_cons_succ]
        refine wpAnyH_take (i := 6) (oi := sop6) (v := ?_) rfl (by as_aux_lemma => kernel_rfl) (by as_aux_lemma => kernel_rfl) (by as_aux_lemma => kernel_rfl) (fun _ _ _ h => h) (Or.inl ⟨by rfl, ?_⟩) (by assumption) ?_
        rotate_left
        · unfold sop6; intro w hSw; (try dsimp only at hSw); go_simp; try (with_reducible rfl)
        try simp only [sop6, Act.put, List.setIfInBounds_toArray, List.set_cons_zero, List.set_cons_succ]
        refine wpAnyH_take (i := 7) (oi := sop7) (v := ?_) rfl (by as_aux_lemma => kernel_rfl) (by as_aux_lemma => kernel_rfl) (by as_aux_lemma => kernel_rfl) (fun _ _ _ h => h) (Or.inl ⟨by rfl, ?_⟩) (by assumption) ?_
        rotate_left
        · unfold sop7; intro w hSw; (try dsimp only at hSw); go_simp; try (with_reducible rfl)
        try simp only [sop7, Act.put, List.setIfInBounds_toArray, List.set_cons_zero, List.set_cons_succ]
        refine wpAnyH_take (i := 8) (oi := sop8) (v := ?_) rfl (by as_aux_lemma => kernel_rfl) (by as_aux_lemma => kernel_rfl) (by as_aux_lemma => kernel_rfl) (fun _ _ _ h => h) (Or.inl ⟨by rfl, ?_⟩) (by assumption) ?_
        rotate_left
        · unfold sop8; intro w hSw; (try dsimp only at hSw); go_simp; try (with_reducible rfl)
        try simp only [sop8, Act.put, List.setIfInBounds_toArray, List.set_cons_zero, List.set_cons_succ]
        refine wpAnyH_take (i := 9) (oi := sop9) (v := ?_) rfl (by as_aux_lemma => kernel_rfl) (by as_aux_lemma => kernel_rfl) (by as_aux_lemma => kernel_rfl) (fun _ _ _ h => h) (Or.inl ⟨by rfl, ?_⟩) (by assumption) ?_
        rotate_left
        · unfold sop9; intro w hSw; (try dsimp only at hSw); go_simp; try (with_reducible rfl)
        try simp only [sop9, Act.put, List.setIfInBounds_toArray, List.set_cons_zero, List.set_cons_succ]
        refine wpAnyH_take (i := 10) (oi := sop10) (v := ?_) rfl (by as_aux_lemma => kernel_rfl) (by as_aux_lemma => kernel_rfl) (by as_aux_lemma => kernel_rfl) (fun _ _ _ h => h) (Or.inl ⟨by rfl, ?_⟩) (by assumption) ?_
        rotate_left
        · unfold sop10; intro w hSw; (try dsimp only at hSw); go_simp; try (with_reducible rfl)
        try simp only [sop10, Act.put, List.setIfInBounds_toArray, List.set_cons_zero, List.set_cons_succ]
        refine wpAnyH_take (i := 11) (oi := sop11) (v := ?_) rfl (by as_aux_lemma => kernel_rfl) (by as_aux_lemma => kernel_rfl) (by as_aux_lemma => kernel_rfl) (fun _ _ _ h => h) (Or.inl ⟨by rfl, ?_⟩) (by assumption) ?_
        rotate_left
        · unfold sop11; intro w hSw; (try dsimp only at hSw); go_simp; try (with_reducible rfl)
        try simp only [sop11, Act.put, List.setIfInBounds_toArray, List.set_cons_zero, List.set_cons_succ]
        as_aux_lemma =>
         refine wpAnyH_take (i := 12) (oi := sop12) (v := ?_) rfl (by as_aux_lemma => kernel_rfl) (by as_aux_lemma => kernel_rfl) (by as_aux_lemma => kernel_rfl) (fun _ _ _ h => h) (Or.inl ⟨by rfl, ?_⟩) (by assumption) ?_
         rotate_left
         · unfold sop12; intro w hSw; (try dsimp only at hSw); go_simp; try (with_reducible rfl)
         try simp only [sop12, Act.put, List.setIfInBounds_toArray, List.set_cons_zero, List.set_cons_succ]
         refine wpAnyH_take (i := 13) (oi := sop13) (v := ?_) rfl (by as_aux_lemma => kernel_rfl) (by as_aux_lemma => kernel_rfl) (by as_aux_lemma => kernel_rfl) (fun _ _ _ h => h) (Or.inl ⟨by rfl, ?_⟩) (by assumption) ?_
         rotate_left
         · unfold sop13; intro w hSw; (try dsimp only at hSw); go_simp; try (with_reducible rfl)
         try simp only [sop13, Act.put, List.setIfInBounds_toArray, List.set_cons_zero, List.set_cons_succ]
         refine wpAnyH_take (i := 14) (oi := sop14) (v := ?_) rfl (by as_aux_lemma => kernel_rfl) (by as_aux_lemma => kernel_rfl) (by as_aux_lemma => kernel_rfl) (fun _ _ _ h => h) (Or.inl ⟨by rfl, ?_⟩) (by assumption) ?_
         rotate_left
         · unfold sop14; intro w hSw; (try dsimp only at hSw); go_simp; try (with_reducible rfl)
         try simp only [sop14, Act.put, List.setIfInBounds_toArray, List.set_cons_zero, List.set_cons_succ]
         refine wpAnyH_take (i := 15) (oi := sop15) (v := ?_) rfl (by as_aux_lemma => kernel_rfl) (by as_aux_lemma => kernel_rfl) (by as_aux_lemma => kernel_rfl) (fun _ _ _ h => h) (Or.inl ⟨by rfl, ?_⟩) (by assumption) ?_
         rotate_left
         · unfold sop15; intro w hSw; (try dsimp only at hSw); go_simp; try (with_reducible rfl)
         try simp only [sop15, Act.put, List.setIfInBounds_toArray, List.set_cons_zero, List.set_cons_succ]
         refine wpAnyH_take (i := 16) (oi := sop16) (v := ?_) rfl (by as_aux_lemma => kernel_rfl) (by as_aux_lemma => kernel_rfl) (by as_aux_lemma => kernel_rfl) (fun _ _ _ h => h) (Or.inl ⟨by rfl, ?_⟩) (by assumption) ?_
         rotate_left
         · unfold sop16; intro w hSw; (try dsimp only at hSw); go_simp; try (with_reducible rfl)
         try simp only [sop16, Act.put, List.setIfInBounds_toArray, List.set_cons_zero, List.set_cons_succ]
         refine wpAnyH_take (i := 17) (oi := sop17) (v := ?_) rfl (by as_aux_lemma => kernel_rfl) (by as_aux_lemma => kernel_rfl) (by as_aux_lemma => kernel_rfl) (fun _ _ _ h => h) (Or.inl ⟨by rfl, ?_⟩) (by assumption) ?_
         rotate_left
         · unfold sop17; intro w hSw; (try dsimp only at hSw); go_simp; try (with_reducible rfl)
         try simp only [sop17, Act.put, List.setIfInBounds_toArray, List.set_cons_zero, List.set_cons_succ]
         refine wpAnyH_take (i := 18) (oi := sop18) (v := ?_) rfl (by as_aux_lemma => kernel_rfl) (by as_aux_lemma => kernel_rfl) (by as_aux_lemma => kernel_rfl) (fun _ _ _ h => h) (Or.inl ⟨by rfl, ?_⟩) (by assumption) ?_
         rotate_left
         · unfold sop18; intro w hSw; (try dsimp only at hSw); go_simp; try (with_reducible rfl)
         try simp only [sop18, Act.put, List.setIfInBounds_toArray, List.set_cons_zero, List.set_cons_succ]
         refine wpAnyH_take (i := 19) (oi := sop19) (v := ?_) rfl (by as_aux_lemma => kernel_rfl) (by as_aux_lemma => kernel_rfl) (by as_aux_lemma => kernel_rfl) (fun _ _ _ h => h) (Or.inl ⟨by rfl, ?_⟩) (by assumption) ?_
         rotate_left
         · unfold sop19; intro w hSw; (try dsimp only at hSw); go_simp; try (with_reducible rfl)
         try simp only [sop19, Act.put, List.setIfInBounds_toArray, List.set_cons_zero, List.set_cons_succ]
         refine wpAnyH_take (i := 20) (oi := sop20) (v := ?_) rfl (by as_aux_lemma => kernel_rfl) (by as_aux_lemma => kernel_rfl) (by as_aux_lemma => kernel_rfl) (fun _ _ _ h => h) (Or.inl ⟨by rfl, ?_⟩) (by assumption) ?_
         rotate_left
         · unfold sop20; intro w hSw; (try dsimp only at hSw); go_simp; try (with_reducible rfl)
         try simp only [sop20, Act.put, List.setIfInBounds_toArray, List.set_cons_zero, List.set_cons_succ]
         refine wpAnyH_take (i := 21) (oi := sop21) (v := ?_) rfl (by as_aux_lemma => kernel_rfl) (by as_aux_lemma => kernel_rfl) (by as_aux_lemma => kernel_rfl) (fun _ _ _ h => h) (Or.inl ⟨by rfl, ?_⟩) (by assumption) ?_
         rotate_left
         · unfold sop21; intro w hSw; (try dsimp only at hSw); go_simp; try (with_reducible rfl)
         try simp only [sop21, Act.put, List.setIfInBounds_toArray, List.set_cons_zero, List.set_cons_succ]
         refine wpAnyH_take (i := 22) (oi := sop22) (v := ?_) rfl (by as_aux_lemma => kernel_rfl) (by as_aux_lemma => kernel_rfl) (by as_aux_lemma => kernel_rfl) (fun _ _ _ h => h) (Or.inl ⟨by rfl, ?_⟩) (by assumption) ?_
         rotate_left
         · unfold sop22; intro w hSw; (try dsimp only at hSw); go_simp; try (with_reducible rfl)
         try simp only [sop22, Act.put, List.setIfInBounds_toArray, List.set_cons_zero, List.set_cons_succ]
         refine wpAnyH_take (i := 23) (oi := sop23) (v := ?_) rfl (by as_aux_lemma => kernel_rfl) (by as_aux_lemma => kernel_rfl) (by as_aux_lemma => kernel_rfl) (fun _ _ _ h => h) (Or.inl ⟨by rfl, ?_⟩) (by assumption) ?_
         rotate_left
         · unfold sop23; intro w hSw; (try dsimp only at hSw); go_simp; try (with_reducible rfl)
         try simp only [sop23, Act.put, List.setIfInBounds_toArray, List.set_cons_zero, List.set_cons_succ]
         as_aux_lemma =>
          refine wpAnyH_take (i := 24) (oi := sop24) (v := ?_) rfl (by as_aux_lemma => kernel_rfl) (by as_aux_lemma => kernel_rfl) (by as_aux_lemma => kernel_rfl) (fun _ _ _ h => h) (Or.inl ⟨by rfl, ?_⟩) (by assumption) ?_
          rotate_left
          · unfold sop24; intro w hSw; (try dsimp only at hSw); go_simp; try (with_reducible rfl)
          try simp only [sop24, Act.put, List.setIfInBounds_toArray, List.set_cons_zero, List.set_cons_succ]
          refine wpAnyH_take (i := 25) (oi := sop25) (v := ?_) rfl (by as_aux_lemma => kernel_rfl) (by as_aux_lemma => kernel_rfl) (by as_aux_lemma => kernel_rfl) (fun _ _ _ h => h) (Or.inl ⟨by rfl, ?_⟩) (by assumption) ?_
          rotate_left
          · unfold sop25; intro w hSw; (try dsimp only at hSw); go_simp; try (with_reducible rfl)
          try simp only [sop25, Act.put, List.setIfInBounds_toArray, List.set_cons_zero, List.set_cons_succ]
          refine wpAnyH_take (i := 26) (oi := sop26) (v := ?_) rfl (by as_aux_lemma => kernel_rfl) (by as_aux_lemma => kernel_rfl) (by as_aux_lemma => kernel_rfl) (fun _ _ _ h => h) (Or.inl ⟨by rfl, ?_⟩) (by assumption) ?_
          rotate_left
          · unfold sop26; intro w hSw; (try dsimp only at hSw); go_simp; try (with_reducible rfl)
          try simp only [sop26, Act.put, List.setIfInBounds_toArray, List.set_cons_zero, List.set_cons_succ]
          refine wpAnyH_take (i := 27) (oi := sop27) (v := ?_) rfl (by as_aux_lemma => kernel_rfl) (by as_aux_lemma => kernel_rfl) (by as_aux_lemma => kernel_rfl) (fun _ _ _ h => h) (Or.inl ⟨by rfl, ?_⟩) (by assumption) ?_
          rotate_left
          · unfold sop27; intro w hSw; (try dsimp only at hSw); go_simp; try (with_reducible rfl)
          try simp only [sop27, Act.put, List.setIfInBounds_toArray, List.set_cons_zero, List.set_cons_succ]
          refine wpAnyH_take (i := 28) (oi := sop28) (v := ?_) rfl (by as_aux_lemma => kernel_rfl) (by as_aux_lemma => kernel_rfl) (by as_aux_lemma => kernel_rfl) (fun _ _ _ h => h) (Or.inl ⟨by rfl, ?_⟩) (by assumption) ?_
          rotate_left
          · unfold sop28; intro w hSw; (try dsimp only at hSw); go_simp; try (with_reducible rfl)
          try simp only [sop28, Act.put, List.setIfInBounds_toArray, List.set_cons_zero, List.set_cons_succ]
          refine wpAnyH_take (i := 29) (oi := sop29) (v := ?_) rfl (by as_aux_lemma => kernel_rfl) (by as_aux_lemma => kernel_rfl) (by as_aux_lemma => kernel_rfl) (fun _ _ _ h => h) (Or.inl ⟨by rfl, ?_⟩) (by assumption) ?_
          rotate_left
          · unfold sop29; intro w hSw; (try dsimp only at hSw); go_simp; try (with_reducible rfl)
          try simp only [sop29, Act.put, List.setIfInBounds_toArray, List.set_cons_zero, List.set_cons_succ]
          refine wpAnyH_take (i := 30) (oi := sop30) (v := ?_) rfl (by as_aux_lemma => kernel_rfl) (by as_aux_lemma => kernel_rfl) (by as_aux_lemma => kernel_rfl) (fun _ _ _ h => h) (Or.inl ⟨by rfl, ?_⟩) (by assumption) ?_
          rotate_left
          · unfold sop30; intro w hSw; (try dsimp only at hSw); go_simp; try (with_reducible rfl)
          try simp only [sop30, Act.put, List.setIfInBounds_toArray, List.set_cons_zero, List.set_cons_succ]
          refine wpAnyH_take (i := 31) (oi := sop31) (v := ?_) rfl (by as_aux_lemma => kernel_rfl) (by as_aux_lemma => kernel_rfl) (by as_aux_lemma => kernel_rfl) (fun _ _ _ h => h) (Or.inl ⟨by rfl, ?_⟩) (by assumption) ?_
          rotate_left
          · unfold sop31; intro w hSw; (try dsimp only at hSw); go_simp; try (with_reducible rfl)
          try simp only [sop31, Act.put, List.setIfInBounds_toArray, List.set_cons_zero, List.set_cons_succ]
          refine wpAnyH_take (i := 32) (oi := sop32) (v := ?_) rfl (by as_aux_lemma => kernel_rfl) (by as_aux_lemma => kernel_rfl) (by as_aux_lemma => kernel_rfl) (fun _ _ _ h => h) (Or.inl ⟨by rfl, ?_⟩) (by assumption) ?_
          rotate_left
          · unfold sop32; intro w hSw; (try dsimp only at hSw); go_simp; try (with_reducible rfl)
          try simp only [sop32, Act.put, List.setIfInBounds_toArray, List.set_cons_zero, List.set_cons_succ]
          refine wpAnyH_take (i := 33) (oi := sop33) (v := ?_) rfl (by as_aux_lemma => kernel_rfl) (by as_aux_lemma => kernel_rfl) (by as_aux_lemma => kernel_rfl) (fun _ _ _ h => h) (Or.inl ⟨by rfl, ?_⟩) (by assumption) ?_
          rotate_left
          · unfold sop33; intro w hSw; (try dsimp only at hSw); go_simp; try (with_reducible rfl)
          try simp only [sop33, Act.put, List.setIfInBounds_toArray, List.set_cons_zero, List.set_cons_succ]
          refine wpAnyH_take (i := 34) (oi := sop34) (v := ?_) rfl (by as_aux_lemma => kernel_rfl) (by as_aux_lemma => kernel_rfl) (by as_aux_lemma => kernel_rfl) (fun _ _ _ h => h) (Or.inl ⟨by rfl, ?_⟩) (by assumption) ?_
          rotate_left
          · unfold sop34; intro w hSw; (try dsimp only at hSw); go_simp; try (with_reducible rfl)
          try simp only [sop34, Act.put, List.setIfInBounds_toArray, List.set_cons_zero, List.set_cons_succ]
          refine wpAnyH_take (i := 35) (oi := sop35) (v := ?_) rfl (by as_aux_lemma => kernel_rfl) (by as_aux_lemma => kernel_rfl) (by as_aux_lemma => kernel_rfl) (fun _ _ _ h => h) (Or.inl ⟨by rfl, ?_⟩) (by assumption) ?_
          rotate_left
          · unfold sop35; intro w hSw; (try dsimp only at hSw); go_simp; try (with_reducible rfl)
          try simp only [sop35, Act.put, List.setIfInBounds_toArray, List.set_cons_zero, List.set_cons_succ]
          as_aux_lemma =>
           refine wpAnyH_take (i := 36) (oi := sop36) (v := ?_) rfl (by as_aux_lemma => kernel_rfl) (by as_aux_lemma => kernel_rfl) (by as_aux_lemma => kernel_rfl) (fun _ _ _ h => h) (Or.inl ⟨by rfl, ?_⟩) (by assumption) ?_
           rotate_left
           · unfold sop36; intro w hSw; (try dsimp only at hSw); go_simp; try (with_reducible rfl)
           try simp only [sop36, Act.put, List.setIfInBounds_toArray, List.set_cons_zero, List.set_cons_succ]
           refine wpAnyH_take (i := 37) (oi := sop37) (v := ?_) rfl (by as_aux_lemma => kernel_rfl) (by as_aux_lemma => kernel_rfl) (by as_aux_lemma => kernel_rfl) (fun _ _ _ h => h) (Or.inl ⟨by rfl, ?_⟩) (by assumption) ?_
           rotate_left
           · unfold sop37; intro w hSw; (try dsimp only at hSw); go_simp; try (with_reducible rfl)
           try simp only [sop37, Act.put, List.setIfInBounds_toArray, List.set_cons_zero, List.set_cons_succ]
           refine wpAnyH_take (i := 38) (oi := sop38) (v := ?_) rfl (by as_aux_lemma => kernel_rfl) (by as_aux_lemma => kernel_rfl) (by as_aux_lemma => kernel_rfl) (fun _ _ _ h => h) (Or.inl ⟨by rfl, ?_⟩) (by assumption) ?_
           rotate_left
           · unfold sop38; intro w hSw; (try dsimp only at hSw); go_simp; try (with_reducible rfl)
           try simp only [sop38, Act.put, List.setIfInBounds_toArray, List.set_cons_zero, List.set_cons_succ]
           refine wpAnyH_take (i := 39) (oi := sop39) (v := ?_) rfl (by as_aux_lemma => kernel_rfl) (by as_aux_lemma => kernel_rfl) (by as_aux_lemma => kernel_rfl) (fun _ _ _ h => h) (Or.inl ⟨by rfl, ?_⟩) (by assumption) ?_
           rotate_left
           · unfold sop39; intro w hSw; (try dsimp only at hSw); go_simp; try (with_reducible rfl)
           try simp only [sop39, Act.put, List.setIfInBounds_toArray, List.set_cons_zero, List.set_cons_succ]
           refine wpAnyH_take (i := 40) (oi := sop40) (v := ?_) rfl (by as_aux_lemma => kernel_rfl) (by as_aux_lemma => kernel_rfl) (by as_aux_lemma => kernel_rfl) (fun _ _ _ h => h) (Or.inl ⟨by rfl, ?_⟩) (by assumption) ?_
           rotate_left
           · unfold sop40; intro w hSw; (try dsimp only at hSw); go_simp; try (with_reducible rfl)
           try simp only [sop40, Act.put, List.setIfInBounds_toArray, List.set_cons_zero, List.set_cons_succ]
           refine wpAnyH_take (i := 41) (oi := sop41) (v := ?_) rfl (by as_aux_lemma => kernel_rfl) (by as_aux_lemma => kernel_rfl) (by as_aux_lemma => kernel_rfl) (fun _ _ _ h => h) (Or.inl ⟨by rfl, ?_⟩) (by assumption) ?_
           rotate_left
           · unfold sop41; intro w hSw; (try dsimp only at hSw); go_simp; try (with_reducible rfl)
           try simp only [sop41, Act.put, List.setIfInBounds_toArray, List.set_cons_zero, List.set_cons_succ]
           refine wpAnyH_take (i := 42) (oi := sop42) (v := ?_) rfl (by as_aux_lemma => kernel_rfl) (by as_aux_lemma => kernel_rfl) (by as_aux_lemma => kernel_rfl) (fun _ _ _ h => h) (Or.inl ⟨by rfl, ?_⟩) (by assumption) ?_
           rotate_left
           · unfold sop42; intro w hSw; (try dsimp only at hSw); go_simp; try (with_reducible rfl)
           try simp only [sop42, Act.put, List.setIfInBounds_toArray, List.set_cons_zero, List.set_cons_succ]
           refine wpAnyH_take (i := 43) (oi := sop43) (v := ?_) rfl (by as_aux_lemma => kernel_rfl) (by as_aux_lemma => kernel_rfl) (by as_aux_lemma => kernel_rfl) (fun _ _ _ h => h) (Or.inl ⟨by rfl, ?_⟩) (by assumption) ?_
           rotate_left
           · unfold sop43; intro w hSw; (try dsimp only at hSw); go_simp; try (with_reducible rfl)
           try simp only [sop43, Act.put, List.setIfInBounds_toArray, List.set_cons_zero, List.set_cons_succ]
           refine wpAnyH_take (i := 44) (oi := sop44) (v := ?_) rfl (by as_aux_lemma => kernel_rfl) (by as_aux_lemma => kernel_rfl) (by as_aux_lemma => kernel_rfl) (fun _ _ _ h => h) (Or.inl ⟨by rfl, ?_⟩) (by assumption) ?_
           rotate_left
           · unfold sop44; intro w hSw; (try dsimp only at hSw); go_simp; try (with_reducible rfl)
           try simp only [sop44, Act.put, List.setIfInBounds_toArray, List.set_cons_zero, List.set_cons_succ]
           refine wpAnyH_take (i := 45) (oi := sop45) (v := ?_) rfl (by as_aux_lemma => kernel_rfl) (by as_aux_lemma => kernel_rfl) (by as_aux_lemma => kernel_rfl) (fun _ _ _ h => h) (Or.inl ⟨by rfl, ?_⟩) (by assumption) ?_
           rotate_left
           · unfold sop45; intro w hSw; (try dsimp only at hSw); go_simp; try (with_reducible rfl)
           try simp only [sop45, Act.put, List.setIfInBounds_toArray, List.set_cons_zero, List.set_cons_succ]
           refine wpAnyH_take (i := 46) (oi := sop46) (v := ?_) rfl (by as_aux_lemma => kernel_rfl) (by as_aux_lemma => kernel_rfl) (by as_aux_lemma => kernel_rfl) (fun _ _ _ h => h) (Or.inl ⟨by rfl, ?_⟩) (by assumption) ?_
           rotate_left
           · unfold sop46; intro w hSw; (try dsimp only at hSw); go_simp; try (with_reducible rfl)
           try simp only [sop46, Act.put, List.setIfInBounds_toArray, List.set_cons_zero, List.set_cons_succ]
           refine wpAnyH_take (i := 47) (oi := sop47) (v := ?_) rfl (by as_aux_lemma => kernel_rfl) (by as_aux_lemma => kernel_rfl) (by as_aux_lemma => kernel_rfl) (fun _ _ _ h => h) (Or.inl ⟨by rfl, ?_⟩) (by assumption) ?_
           rotate_left
           · unfold sop47; intro w hSw; (try dsimp only at hSw); go_simp; try (with_reducible rfl)
           try simp only [sop47, Act.put, List.setIfInBounds_toArray, List.set_cons_zero, List.set_cons_succ]
           as_aux_lemma =>
            refine wpAnyH_take (i := 48) (oi := sop48) (v := ?_) rfl (by as_aux_lemma => kernel_rfl) (by as_aux_lemma => kernel_rfl) (by as_aux_lemma => kernel_rfl) (fun _ _ _ h => h) (Or.inl ⟨by rfl, ?_⟩) (by assumption) ?_
            rotate_left
            · unfold sop48; intro w hSw; (try dsimp only at hSw); go_simp; try (with_reducible rfl)
            try simp only [sop48, Act.put, List.setIfInBounds_toArray, List.set_cons_zero, List.set_cons_succ]
            refine wpAnyH_take (i := 49) (oi := sop49) (v := ?_) rfl (by as_aux_lemma => kernel_rfl) (by as_aux_lemma => kernel_rfl) (by as_aux_lemma => kernel_rfl) (fun _ _ _ h => h) (Or.inl ⟨by rfl, ?_⟩) (by assumption) ?_
            rotate_left
            · unfold sop49; intro w hSw; (try dsimp only at hSw); go_simp; try (with_reducible rfl)
            try simp only [sop49, Act.put, List.setIfInBounds_toArray, List.set_cons_zero, List.set_cons_succ]
            refine wpAnyH_take (i := 50) (oi := sop50) (v := ?_) rfl (by as_aux_lemma => kernel_rfl) (by as_aux_lemma => kernel_rfl) (by as_aux_lemma => kernel_rfl) (fun _ _ _ h => h) (Or.inl ⟨by rfl, ?_⟩) (by assumption) ?_
            rotate_left
            · unfold sop50; intro w hSw; (try dsimp only at hSw); go_simp; try (with_reducible rfl)
            try simp only [sop50, Act.put, List.setIfInBounds_toArray, List.set_cons_zero, List.set_cons_succ]
            refine wpAnyH_take (i := 51) (oi := sop51) (v := ?_) rfl (by as_aux_lemma => kernel_rfl) (by as_aux_lemma => kernel_rfl) (by as_aux_lemma => kernel_rfl) (fun _ _ _ h => h) (Or.inl ⟨by rfl, ?_⟩) (by assumption) ?_
            rotate_left
            · unfold sop51; intro w hSw; (try dsimp only at hSw); go_simp; try (with_reducible rfl)
            try simp only [sop51, Act.put, List.setIfInBounds_toArray, List.set_cons_zero, List.set_cons_succ]
            refine wpAnyH_take (i := 52) (oi := sop52) (v := ?_) rfl (by as_aux_lemma => kernel_rfl) (by as_aux_lemma => kernel_rfl) (by as_aux_lemma => kernel_rfl) (fun _ _ _ h => h) (Or.inl ⟨by rfl, ?_⟩) (by assumption) ?_
            rotate_left
            · unfold sop52; intro w hSw; (try dsimp only at hSw); go_simp; try (with_reducible rfl)
            try simp only [sop52, Act.put, List.setIfInBounds_toArray, List.set_cons_zero, List.set_cons_succ]
            refine wpAnyH_take (i := 53) (oi := sop53) (v := ?_) rfl (by as_aux_lemma => kernel_rfl) (by as_aux_lemma => kernel_rfl) (by as_aux_lemma => kernel_rfl) (fun _ _ _ h => h) (Or.inl ⟨by rfl, ?_⟩) (by assumption) ?_
            rotate_left
            · unfold sop53; intro w hSw; (try dsimp only at hSw); go_simp; try (with_reducible rfl)
            try simp only [sop53, Act.put, List.setIfInBounds_toArray, List.set_cons_zero, List.set_cons_succ]
            refine wpAnyH_take (i := 55) (oi := sop55) (v := ?_) rfl (by as_aux_lemma => kernel_rfl) (by as_aux_lemma => kernel_rfl) (by as_aux_lemma => kernel_rfl) (fun _ _ _ h => h) (Or.inl ⟨by rfl, ?_⟩) (by assumption) ?_
            rotate_left
            · unfold sop55; intro w hSw; (try dsimp only at hSw); go_simp; try (with_reducible rfl)
            try simp only [sop55, Act.put, List.setIfInBounds_toArray, List.set_cons_zero, List.set_cons_succ]
            refine wpAnyH_ready (rs := [54]) (by as_aux_lemma => kernel_rfl) (by simp) ?_
            refine AllReadyH.cons (o := sop54) rfl (fun K hK => ?_) AllReadyH.nil
            unfold sop54
            go_simp
            (go_at_call 29; (with_reducible refine (HRQ.out _).mono ?_); rintro e wA ⟨rfl, blA⟩)
            try go_wp2_with fail
            refine hK.out _ _ ?_ (fun hHeld2 => ?_)
            · (refine keep7 BW0 BT_31 hcx ?_; repeat (first | exact Below.refl _ _ | refine below_drw ?_ | refine below_to ?_ (by assumption)))
            clear hK K hHeld
            have hHeld := hHeld2
            clear hHeld2
            try simp only [sop54, Act.put, List.setIfInBounds_toArray, List.set_cons_zero, List.set_cons_succ]
            as_aux_lemma =>
             refine wpAnyH_take (i := 56) (oi := sop56) (v := ?_) rfl (by as_aux_lemma => kernel_rfl) (by as_aux_lemma => kernel_rfl) (by as_aux_lemma => kernel_rfl) (fun _ _ _ h => h) (Or.inl ⟨by rfl, ?_⟩) (by assumption) ?_
             rotate_left
             · unfold sop56; intro w hSw; (try dsimp only at hSw); go_simp; try (with_reducible rfl)
             try simp only [sop56, Act.put, List.setIfInBounds_toArray, List.set_cons_zero, List.set_cons_succ]
             refine wpAnyH_take (i := 57) (oi := sop57) (v := ?_) rfl (by as_aux_lemma => kernel_rfl) (by as_aux_lemma => kernel_rfl) (by as_aux_lemma => kernel_rfl) (fun _ _ _ h => h) (Or.inl ⟨by rfl, ?_⟩) (by assumption) ?_
             rotate_left
             · unfold sop57; intro w hSw; (try dsimp only at hSw); go_simp; try (with_reducible rfl)
             try simp only [sop57, Act.put, List.setIfInBounds_toArray, List.set_cons_zero, List.set_cons_succ]
             refine wpAnyH_done (by kernel_rfl) ?_ _
             go_wp2_with fail
             go_meet
             refine ⟨rfl, ?_⟩
             refine below_to ?_ blA
             repeat (first | exact Below.refl _ _ | refine below_drw ?_ | refine below_to ?_ (by assumption))
      · have hw0 : (wN == 0) = false := by have := fun h => hB0 (HWZ.out.1 h).2; simpa using this
        have ha0 : (A == 0) = true := by simpa using hA0
        have hb0 : (B == 0) = false := by simpa using hB0
        clear hA0 hB0
        refine wp_region_held_drew (S := (fun w' => w'.cell? ⟨bw, 0, none⟩ = some (.int .i64 wN) ∧ w'.cell? ⟨bw, 1, none⟩ = some (.int .i64 wD) ∧ w'.cell? ⟨bt, 0, none⟩ = some (.int .i64 N) ∧ w'.cell? ⟨bt, 1, none⟩ = some (.int .i64 D) ∧ w'.cell? ⟨g, o + j * 3, none⟩ = some (.int .i64 X) ∧ w'.cell? ⟨g, o + j * 3 + 1, none⟩ = some (.int .i64 Y) ∧ w'.cell? ⟨g, o + j * 3 + 2, none⟩ = some (.int .i64 C))) (by kernel_rfl) ?_ (fun hHeld => ?_)
        · (refine keep7 BW0 BT_31 hcx ?_; repeat (first | exact Below.refl _ _ | refine below_drw ?_ | refine below_to ?_ (by assumption)))
        refine wpAnyH_take (i := 0) (oi := sop0) (v := ?_) rfl (by as_aux_lemma => kernel_rfl) (by as_aux_lemma => kernel_rfl) (by as_aux_lemma => kernel_rfl) (fun _ _ _ h => h) (Or.inl ⟨by rfl, ?_⟩) (by assumption) ?_
        rotate_left
        · unfold sop0; intro w hSw; (try dsimp only at hSw); go_simp; try (with_reducible rfl)
        try simp only [sop0, Act.put, List.setIfInBounds_toArray, List.set_cons_zero, List.set_cons_succ]
        refine wpAnyH_take (i := 1) (oi := sop1) (v := ?_) rfl (by as_aux_lemma => kernel_rfl) (by as_aux_lemma => kernel_rfl) (by as_aux_lemma => kernel_rfl) (fun _ _ _ h => h) (Or.inl ⟨by rfl, ?_⟩) (by assumption) ?_
        rotate_left
        · unfold sop1; intro w hSw; (try dsimp only at hSw); go_simp; try (with_reducible rfl)
        try simp only [sop1, Act.put, List.setIfInBounds_toArray, List.set_cons_zero, List.set_cons_succ]
        refine wpAnyH_take (i := 2) (oi := sop2) (v := ?_) rfl (by as_aux_lemma => kernel_rfl) (by as_aux_lemma => kernel_rfl) (by as_aux_lemma => kernel_rfl) (fun _ _ _ h => h) (Or.inl ⟨by rfl, ?_⟩) (by assumption) ?_
        rotate_left
        · unfold sop2; intro w hSw; (try dsimp only at hSw); go_simp; try (with_reducible rfl)
        try simp only [sop2, Act.put, List.setIfInBounds_toArray, List.set_cons_zero, List.set_cons_succ]
        refine wpAnyH_take (i := 3) (oi := sop3) (v := ?_) rfl (by as_aux_lemma => kernel_rfl) (by as_aux_lemma => kernel_rfl) (by as_aux_lemma => kernel_rfl) (fun _ _ _ h => h) (Or.inl ⟨by rfl, ?_⟩) (by assumption) ?_
        rotate_left
        · unfold sop3; intro w hSw; (try dsimp only at hSw); go_simp; try (with_reducible rfl)
        try simp only [sop3, Act.put, List.setIfInBounds_toArray, List.set_cons_zero, List.set_cons_succ]
        refine wpAnyH_take (i := 4) (oi := sop4) (v := ?_) rfl (by as_aux_lemma => kernel_rfl) (by as_aux_lemma => kernel_rfl) (by as_aux_lemma => kernel_rfl) (fun _ _ _ h => h) (Or.inl ⟨by rfl, ?_⟩) (by assumption) ?_
        rotate_left
        · unfold sop4; intro w hSw; (try dsimp only at hSw); go_simp; try (with_reducible rfl)
        try simp only [sop4, Act.put, List.setIfInBounds_toArray, List.set_cons_zero, List.set_cons_succ]
        refine wpAnyH_take (i := 5) (oi := sop5) (v := ?_) rfl (by as_aux_lemma => kernel_rfl) (by as_aux_lemma => kernel_rfl) (by as_aux_lemma => kernel_rfl) (fun _ _ _ h => h) (Or.inl ⟨by rfl, ?_⟩) (by assumption) ?_
        rotate_left
        · unfold sop5; intro w hSw; (try dsimp only at hSw); go_simp; try (with_reducible rfl)
        try simp only [sop5, Act.put, List.setIfInBounds_toArray, List.set_cons_zero, List.set_cons_succ]
        refine wpAnyH_take (i := 6) (oi := sop6) (v := ?_) rfl (by as_aux_lemma => kernel_rfl) (by as_aux_lemma => kernel_rfl) (by as_aux_lemma => kernel_rfl) (fun _ _ _ h => h) (Or.inl ⟨by rfl, ?_⟩) (by assumption) ?_
        rotate_left
        · unfold sop6; intro w hSw; (try dsimp only at hSw); go_simp; try (with_reducible rfl)
        try simp only [sop6, Act.put, List.setIfInBounds_toArray, List.set_cons_zero, List.set_cons_succ]
        refine wpAnyH_take (i := 7) (oi := sop7) (v := ?_) rfl (by as_aux_lemma => kernel_rfl) (by as_aux_lemma => kernel_rfl) (by as_aux_lemma => kernel_rfl) (fun _ _ _ h => h) (Or.inl ⟨by rfl, ?_⟩) (by assumption) ?_
        rotate_left
        · unfold sop7; intro w hSw; (try dsimp only at hSw); go_simp; try (with_reducible rfl)
        try simp only [sop7, Act.put, List.setIfInBounds_toArray, List.set_cons_zero, List.set_cons_succ]
        refine wpAnyH_take (i := 8) (oi := sop8) (v := ?_) rfl (by as_aux_lemma => kernel_rfl) (by as_aux_lemma => kernel_rfl) (by as_aux_lemma => kernel_rfl) (fun _ _ _ h => h) (Or.inl ⟨by rfl, ?_⟩) (by assumption) ?_
        rotate_left
        · unfold sop8; intro w hSw; (try dsimp only at hSw); go_simp; try (with_reducible rfl)
        try simp only [sop8, Act.put, List.setIfInBounds_toArray, List.set_cons_zero, List.set_cons_succ]
        refine wpAnyH_take (i := 9) (oi := sop9) (v := ?_) rfl (by as_aux_lemma => kernel_rfl) (by as_aux_lemma => kernel_rfl) (by as_aux_lemma => kernel_rfl) (fun _ _ _ h => h) (Or.inl ⟨by rfl, ?_⟩) (by assumption) ?_
        rotate_left
        · unfold sop9; intro w hSw; (try dsimp only at hSw); go_simp; try (with_reducible rfl)
        try simp only [sop9, Act.put, List.setIfInBounds_toArray, List.set_cons_zero, List.set_cons_succ]
        refine wpAnyH_take (i := 10) (oi := sop10) (v := ?_) rfl (by as_aux_lemma => kernel_rfl) (by as_aux_lemma => kernel_rfl) (by as_aux_lemma => kernel_rfl) (fun _ _ _ h => h) (Or.inl ⟨by rfl, ?_⟩) (by assumption) ?_
        rotate_left
        · unfold sop10; intro w hSw; (try dsimp only at hSw); go_simp; try (with_reducible rfl)
        try simp only [sop10, Act.put, List.setIfInBounds_toArray, List.set_cons_zero, List.set_cons_succ]
        refine wpAnyH_take (i := 11) (oi := sop11) (v := ?_) rfl (by as_aux_lemma => kernel_rfl) (by as_aux_lemma => kernel_rfl) (by as_aux_lemma => kernel_rfl) (fun _ _ _ h => h) (Or.inl ⟨by rfl, ?_⟩) (by assumption) ?_
        rotate_left
        · unfold sop11; intro w hSw; (try dsimp only at hSw); go_simp; try (with_reducible rfl)
        try simp only [sop11, Act.put, List.setIfInBounds_toArray, List.set_cons_zero, List.set_cons_succ]
        as_aux_lemma =>
         refine wpAnyH_take (i := 12) (oi := sop12) (v := ?_) rfl (by as_aux_lemma => kernel_rfl) (by as_aux_lemma => kernel_rfl) (by as_aux_lemma => kernel_rfl) (fun _ _ _ h => h) (Or.inl ⟨by rfl, ?_⟩) (by assumption) ?_
         rotate_left
         · unfold sop12; intro w hSw; (try dsimp only at hSw); go_simp; try (with_reducible rfl)
         try simp only [sop12, Act.put, List.setIfInBounds_toArray, List.set_cons_zero, List.set_cons_succ]
         refine wpAnyH_take (i := 13) (oi := sop13) (v := ?_) rfl (by as_aux_lemma => kernel_rfl) (by as_aux_lemma => kernel_rfl) (by as_aux_lemma => kernel_rfl) (fun _ _ _ h => h) (Or.inl ⟨by rfl, ?_⟩) (by assumption) ?_
         rotate_left
         · unfold sop13; intro w hSw; (try dsimp only at hSw); go_simp; try (with_reducible rfl)
         try simp only [sop13, Act.put, List.setIfInBounds_toArray, List.set_cons_zero, List.set_cons_succ]
         refine wpAnyH_take (i := 14) (oi := sop14) (v := ?_) rfl (by as_aux_lemma => kernel_rfl) (by as_aux_lemma => kernel_rfl) (by as_aux_lemma => kernel_rfl) (fun _ _ _ h => h) (Or.inl ⟨by rfl, ?_⟩) (by assumption) ?_
         rotate_left
         · unfold sop14; intro w hSw; (try dsimp only at hSw); go_simp; try (with_reducible rfl)
         try simp only [sop14, Act.put, List.setIfInBounds_toArray, List.set_cons_zero, List.set_cons_succ]
         refine wpAnyH_take (i := 15) (oi := sop15) (v := ?_) rfl (by as_aux_lemma => kernel_rfl) (by as_aux_lemma => kernel_rfl) (by as_aux_lemma => kernel_rfl) (fun _ _ _ h => h) (Or.inl ⟨by rfl, ?_⟩) (by assumption) ?_
         rotate_left
         · unfold sop15; intro w hSw; (try dsimp only at hSw); go_simp; try (with_reducible rfl)
         try simp only [sop15, Act.put, List.setIfInBounds_toArray, List.set_cons_zero, List.set_cons_succ]
         refine wpAnyH_take (i := 16) (oi := sop16) (v := ?_) rfl (by as_aux_lemma => kernel_rfl) (by as_aux_lemma => kernel_rfl) (by as_aux_lemma => kernel_rfl) (fun _ _ _ h => h) (Or.inl ⟨by rfl, ?_⟩) (by assumption) ?_
         rotate_left
         · unfold sop16; intro w hSw; (try dsimp only at hSw); go_simp; try (with_reducible rfl)
         try simp only [sop16, Act.put, List.setIfInBounds_toArray, List.set_cons_zero, List.set_cons_succ]
         refine wpAnyH_take (i := 17) (oi := sop17) (v := ?_) rfl (by as_aux_lemma => kernel_rfl) (by as_aux_lemma => kernel_rfl) (by as_aux_lemma => kernel_rfl) (fun _ _ _ h => h) (Or.inl ⟨by rfl, ?_⟩) (by assumption) ?_
         rotate_left
         · unfold sop17; intro w hSw; (try dsimp only at hSw); go_simp; try (with_reducible rfl)
         try simp only [sop17, Act.put, List.setIfInBounds_toArray, List.set_cons_zero, List.set_cons_succ]
         refine wpAnyH_take (i := 18) (oi := sop18) (v := ?_) rfl (by as_aux_lemma => kernel_rfl) (by as_aux_lemma => kernel_rfl) (by as_aux_lemma => kernel_rfl) (fun _ _ _ h => h) (Or.inl ⟨by rfl, ?_⟩) (by assumption) ?_
         rotate_left
         · unfold sop18; intro w hSw; (try dsimp only at hSw); go_simp; try (with_reducible rfl)
         try simp only [sop18, Act.put, List.setIfInBounds_toArray, List.set_cons_zero, List.set_cons_succ]
         refine wpAnyH_take (i := 19) (oi := sop19) (v := ?_) rfl (by as_aux_lemma => kernel_rfl) (by as_aux_lemma => kernel_rfl) (by as_aux_lemma => kernel_rfl) (fun _ _ _ h => h) (Or.inl ⟨by rfl, ?_⟩) (by assumption) ?_
         rotate_left
         · unfold sop19; intro w hSw; (try dsimp only at hSw); go_simp; try (with_reducible rfl)
         try simp only [sop19, Act.put, List.setIfInBounds_toArray, List.set_cons_zero, List.set_cons_succ]
         refine wpAnyH_take (i := 20) (oi := sop20) (v := ?_) rfl (by as_aux_lemma => kernel_rfl) (by as_aux_lemma => kernel_rfl) (by as_aux_lemma => kernel_rfl) (fun _ _ _ h => h) (Or.inl ⟨by rfl, ?_⟩) (by assumption) ?_
         rotate_left
         · unfold sop20; intro w hSw; (try dsimp only at hSw); go_simp; try (with_reducible rfl)
         try simp only [sop20, Act.put, List.setIfInBounds_toArray, List.set_cons_zero, List.set_cons_succ]
         refine wpAnyH_take (i := 21) (oi := sop21) (v := ?_) rfl (by as_aux_lemma => kernel_rfl) (by as_aux_lemma => kernel_rfl) (by as_aux_lemma => kernel_rfl) (fun _ _ _ h => h) (Or.inl ⟨by rfl, ?_⟩) (by assumption) ?_
         rotate_left
         · unfold sop21; intro w hSw; (try dsimp only at hSw); go_simp; try (with_reducible rfl)
         try simp only [sop21, Act.put, List.setIfInBounds_toArray, List.set_cons_zero, List.set_cons_succ]
         refine wpAnyH_take (i := 22) (oi := sop22) (v := ?_) rfl (by as_aux_lemma => kernel_rfl) (by as_aux_lemma => kernel_rfl) (by as_aux_lemma => kernel_rfl) (fun _ _ _ h => h) (Or.inl ⟨by rfl, ?_⟩) (by assumption) ?_
         rotate_left
         · unfold sop22; intro w hSw; (try dsimp only at hSw); go_simp; try (with_reducible rfl)
         try simp only [sop22, Act.put, List.setIfInBounds_toArray, List.set_cons_zero, List.set_cons_succ]
         refine wpAnyH_take (i := 23) (oi := sop23) (v := ?_) rfl (by as_aux_lemma => kernel_rfl) (by as_aux_lemma => kernel_rfl) (by as_aux_lemma => kernel_rfl) (fun _ _ _ h => h) (Or.inl ⟨by rfl, ?_⟩) (by assumption) ?_
         rotate_left
         · unfold sop23; intro w hSw; (try dsimp only at hSw); go_simp; try (with_reducible rfl)
         try simp only [sop23, Act.put, List.setIfInBounds_toArray, List.set_cons_zero, List.set_cons_succ]
         as_aux_lemma =>
          refine wpAnyH_take (i := 24) (oi := sop24) (v := ?_) rfl (by as_aux_lemma => kernel_rfl) (by as_aux_lemma => kernel_rfl) (by as_aux_lemma => kernel_rfl) (fun _ _ _ h => h) (Or.inl ⟨by rfl, ?_⟩) (by assumption) ?_
          rotate_left
          · unfold sop24; intro w hSw; (try dsimp only at hSw); go_simp; try (with_reducible rfl)
          try simp only [sop24, Act.put, List.setIfInBounds_toArray, List.set_cons_zero, List.set_cons_succ]
          refine wpAnyH_take (i := 25) (oi := sop25) (v := ?_) rfl (by as_aux_lemma => kernel_rfl) (by as_aux_lemma => kernel_rfl) (by as_aux_lemma => kernel_rfl) (fun _ _ _ h => h) (Or.inl ⟨by rfl, ?_⟩) (by assumption) ?_
          rotate_left
          · unfold sop25; intro w hSw; (try dsimp only at hSw); go_simp; try (with_reducible rfl)
          try simp only [sop25, Act.put, List.setIfInBounds_toArray, List.set_cons_zero, List.set_cons_succ]
          refine wpAnyH_take (i := 26) (oi := sop26) (v := ?_) rfl (by as_aux_lemma => kernel_rfl) (by as_aux_lemma => kernel_rfl) (by as_aux_lemma => kernel_rfl) (fun _ _ _ h => h) (Or.inl ⟨by rfl, ?_⟩) (by assumption) ?_
          rotate_left
          · unfold sop26; intro w hSw; (try dsimp only at hSw); go_simp; try (with_reducible rfl)
          try simp only [sop26, Act.put, List.setIfInBounds_toArray, List.set_cons_zero, List.set_cons_succ]
          refine wpAnyH_take (i := 27) (oi := sop27) (v := ?_) rfl (by as_aux_lemma => kernel_rfl) (by as_aux_lemma => kernel_rfl) (by as_aux_lemma => kernel_rfl) (fun _ _ _ h => h) (Or.inl ⟨by rfl, ?_⟩) (by assumption) ?_
          rotate_left
          · unfold sop27; intro w hSw; (try dsimp only at hSw); go_simp; try (with_reducible rfl)
          try simp only [sop27, Act.put, List.setIfInBounds_toArray, List.set_cons_zero, List.set_cons_succ]
          refine wpAnyH_take (i := 28) (oi := sop28) (v := ?_) rfl (by as_aux_lemma => kernel_rfl) (by as_aux_lemma => kernel_rfl) (by as_aux_lemma => kernel_rfl) (fun _ _ _ h => h) (Or.inl ⟨by rfl, ?_⟩) (by assumption) ?_
          rotate_left
          · unfold sop28; intro w hSw; (try dsimp only at hSw); go_simp; try (with_reducible rfl)
          try simp only [sop28, Act.put, List.setIfInBounds_toArray, List.set_cons_zero, List.set_cons_succ]
          refine wpAnyH_take (i := 29) (oi := sop29) (v := ?_) rfl (by as_aux_lemma => kernel_rfl) (by as_aux_lemma => kernel_rfl) (by as_aux_lemma => kernel_rfl) (fun _ _ _ h => h) (Or.inl ⟨by rfl, ?_⟩) (by assumption) ?_
          rotate_left
          · unfold sop29; intro w hSw; (try dsimp only at hSw); go_simp; try (with_reducible rfl)
          try simp only [sop29, Act.put, List.setIfInBounds_toArray, List.set_cons_zero, List.set_cons_succ]
          refine wpAnyH_take (i := 30) (oi := sop30) (v := ?_) rfl (by as_aux_lemma => kernel_rfl) (by as_aux_lemma => kernel_rfl) (by as_aux_lemma => kernel_rfl) (fun _ _ _ h => h) (Or.inl ⟨by rfl, ?_⟩) (by assumption) ?_
          rotate_left
          · unfold sop30; intro w hSw; (try dsimp only at hSw); go_simp; try (with_reducible rfl)
          try simp only [sop30, Act.put, List.setIfInBounds_toArray, List.set_cons_zero, List.set_cons_succ]
          refine wpAnyH_take (i := 31) (oi := sop31) (v := ?_) rfl (by as_aux_lemma => kernel_rfl) (by as_aux_lemma => kernel_rfl) (by as_aux_lemma => kernel_rfl) (fun _ _ _ h => h) (Or.inl ⟨by rfl, ?_⟩) (by assumption) ?_
          rotate_left
          · unfold sop31; intro w hSw; (try dsimp only at hSw); go_simp; try (with_reducible rfl)
          try simp only [sop31, Act.put, List.setIfInBounds_toArray, List.set_cons_zero, List.set_cons_succ]
          refine wpAnyH_take (i := 32) (oi := sop32) (v := ?_) rfl (by as_aux_lemma => kernel_rfl) (by as_aux_lemma => kernel_rfl) (by as_aux_lemma => kernel_rfl) (fun _ _ _ h => h) (Or.inl ⟨by rfl, ?_⟩) (by assumption) ?_
          rotate_left
          · unfold sop32; intro w hSw; (try dsimp only at hSw); go_simp; try (with_reducible rfl)
          try simp only [sop32, Act.put, List.setIfInBounds_toArray, List.set_cons_zero, List.set_cons_succ]
          refine wpAnyH_take (i := 33) (oi := sop33) (v := ?_) rfl (by as_aux_lemma => kernel_rfl) (by as_aux_lemma => kernel_rfl) (by as_aux_lemma => kernel_rfl) (fun _ _ _ h => h) (Or.inl ⟨by rfl, ?_⟩) (by assumption) ?_
          rotate_left
          · unfold sop33; intro w hSw; (try dsimp only at hSw); go_simp; try (with_reducible rfl)
          try simp only [sop33, Act.put, List.setIfInBounds_toArray, List.set_cons_zero, List.set_cons_succ]
          refine wpAnyH_take (i := 34) (oi := sop34) (v := ?_) rfl (by as_aux_lemma => kernel_rfl) (by as_aux_lemma => kernel_rfl) (by as_aux_lemma => kernel_rfl) (fun _ _ _ h => h) (Or.inl ⟨by rfl, ?_⟩) (by assumption) ?_
          rotate_left
          · unfold sop34; intro w hSw; (try dsimp only at hSw); go_simp; try (with_reducible rfl)
          try simp only [sop34, Act.put, List.setIfInBounds_toArray, List.set_cons_zero, List.set_cons_succ]
          refine wpAnyH_take (i := 35) (oi := sop35) (v := ?_) rfl (by as_aux_lemma => kernel_rfl) (by as_aux_lemma => kernel_rfl) (by as_aux_lemma => kernel_rfl) (fun _ _ _ h => h) (Or.inl ⟨by rfl, ?_⟩) (by assumption) ?_
          rotate_left
          · unfold sop35; intro w hSw; (try dsimp only at hSw); go_simp; try (with_reducible rfl)
          try simp only [sop35, Act.put, List.setIfInBounds_toArray, List.set_cons_zero, List.set_cons_succ]
          as_aux_lemma =>
           refine wpAnyH_take (i := 36) (oi := sop36) (v := ?_) rfl (by as_aux_lemma => kernel_rfl) (by as_aux_lemma => kernel_rfl) (by as_aux_lemma => kernel_rfl) (fun _ _ _ h => h) (Or.inl ⟨by rfl, ?_⟩) (by assumption) ?_
           rotate_left
           · unfold sop36; intro w hSw; (try dsimp only at hSw); go_simp; try (with_reducible rfl)
           try simp only [sop36, Act.put, List.setIfInBounds_toArray, List.set_cons_zero, List.set_cons_succ]
           refine wpAnyH_take (i := 37) (oi := sop37) (v := ?_) rfl (by as_aux_lemma => kernel_rfl) (by as_aux_lemma => kernel_rfl) (by as_aux_lemma => kernel_rfl) (fun _ _ _ h => h) (Or.inl ⟨by rfl, ?_⟩) (by assumption) ?_
           rotate_left
           · unfold sop37; intro w hSw; (try dsimp only at hSw); go_simp; try (with_reducible rfl)
           try simp only [sop37, Act.put, List.setIfInBounds_toArray, List.set_cons_zero, List.set_cons_succ]
           refine wpAnyH_take (i := 38) (oi := sop38) (v := ?_) rfl (by as_aux_lemma => kernel_rfl) (by as_aux_lemma => kernel_rfl) (by as_aux_lemma => kernel_rfl) (fun _ _ _ h => h) (Or.inl ⟨by rfl, ?_⟩) (by assumption) ?_
           rotate_left
           · unfold sop38; intro w hSw; (try dsimp only at hSw); go_simp; try (with_reducible rfl)
           try simp only [sop38, Act.put, List.setIfInBounds_toArray, List.set_cons_zero, List.set_cons_succ]
           refine wpAnyH_take (i := 39) (oi := sop39) (v := ?_) rfl (by as_aux_lemma => kernel_rfl) (by as_aux_lemma => kernel_rfl) (by as_aux_lemma => kernel_rfl) (fun _ _ _ h => h) (Or.inl ⟨by rfl, ?_⟩) (by assumption) ?_
           rotate_left
           · unfold sop39; intro w hSw; (try dsimp only at hSw); go_simp; try (with_reducible rfl)
           try simp only [sop39, Act.put, List.setIfInBounds_toArray, List.set_cons_zero, List.set_cons_succ]
           refine wpAnyH_take (i := 40) (oi := sop40) (v := ?_) rfl (by as_aux_lemma => kernel_rfl) (by as_aux_lemma => kernel_rfl) (by as_aux_lemma => kernel_rfl) (fun _ _ _ h => h) (Or.inl ⟨by rfl, ?_⟩) (by assumption) ?_
           rotate_left
           · unfold sop40; intro w hSw; (try dsimp only at hSw); go_simp; try (with_reducible rfl)
           try simp only [sop40, Act.put, List.setIfInBounds_toArray, List.set_cons_zero, List.set_cons_succ]
           refine wpAnyH_take (i := 41) (oi := sop41) (v := ?_) rfl (by as_aux_lemma => kernel_rfl) (by as_aux_lemma => kernel_rfl) (by as_aux_lemma => kernel_rfl) (fun _ _ _ h => h) (Or.inl ⟨by rfl, ?_⟩) (by assumption) ?_
           rotate_left
           · unfold sop41; intro w hSw; (try dsimp only at hSw); go_simp; try (with_reducible rfl)
           try simp only [sop41, Act.put, List.setIfInBounds_toArray, List.set_cons_zero, List.set_cons_succ]
           refine wpAnyH_take (i := 42) (oi := sop42) (v := ?_) rfl (by as_aux_lemma => kernel_rfl) (by as_aux_lemma => kernel_rfl) (by as_aux_lemma => kernel_rfl) (fun _ _ _ h => h) (Or.inl ⟨by rfl, ?_⟩) (by assumption) ?_
           rotate_left
           · unfold sop42; intro w hSw; (try dsimp only at hSw); go_simp; try (with_reducible rfl)
           try simp only [sop42, Act.put, List.setIfInBounds_toArray, List.set_cons_zero, List.set_cons_succ]
           refine wpAnyH_take (i := 43) (oi := sop43) (v := ?_) rfl (by as_aux_lemma => kernel_rfl) (by as_aux_lemma => kernel_rfl) (by as_aux_lemma => kernel_rfl) (fun _ _ _ h => h) (Or.inl ⟨by rfl, ?_⟩) (by assumption) ?_
           rotate_left
           · unfold sop43; intro w hSw; (try dsimp only at hSw); go_simp; try (with_reducible rfl)
           try simp only [sop43, Act.put, List.setIfInBounds_toArray, List.set_cons_zero, List.set_cons_succ]
           refine wpAnyH_take (i := 44) (oi := sop44) (v := ?_) rfl (by as_aux_lemma => kernel_rfl) (by as_aux_lemma => kernel_rfl) (by as_aux_lemma => kernel_rfl) (fun _ _ _ h => h) (Or.inl ⟨by rfl, ?_⟩) (by assumption) ?_
           rotate_left
           · unfold sop44; intro w hSw; (try dsimp only at hSw); go_simp; try (with_reducible rfl)
           try simp only [sop44, Act.put, List.setIfInBounds_toArray, List.set_cons_zero, List.set_cons_succ]
           refine wpAnyH_take (i := 45) (oi := sop45) (v := ?_) rfl (by as_aux_lemma => kernel_rfl) (by as_aux_lemma => kernel_rfl) (by as_aux_lemma => kernel_rfl) (fun _ _ _ h => h) (Or.inl ⟨by rfl, ?_⟩) (by assumption) ?_
           rotate_left
           · unfold sop45; intro w hSw; (try dsimp only at hSw); go_simp; try (with_reducible rfl)
           try simp only [sop45, Act.put, List.setIfInBounds_toArray, List.set_cons_zero, List.set_cons_succ]
           refine wpAnyH_take (i := 46) (oi := sop46) (v := ?_) rfl (by as_aux_lemma => kernel_rfl) (by as_aux_lemma => kernel_rfl) (by as_aux_lemma => kernel_rfl) (fun _ _ _ h => h) (Or.inl ⟨by rfl, ?_⟩) (by assumption) ?_
           rotate_left
           · unfold sop46; intro w hSw; (try dsimp only at hSw); go_simp; try (with_reducible rfl)
           try simp only [sop46, Act.put, List.setIfInBounds_toArray, List.set_cons_zero, List.set_cons_succ]
           refine wpAnyH_take (i := 47) (oi := sop47) (v := ?_) rfl (by as_aux_lemma => kernel_rfl) (by as_aux_lemma => kernel_rfl) (by as_aux_lemma => kernel_rfl) (fun _ _ _ h => h) (Or.inl ⟨by rfl, ?_⟩) (by assumption) ?_
           rotate_left
           · unfold sop47; intro w hSw; (try dsimp only at hSw); go_simp; try (with_reducible rfl)
           try simp only [sop47, Act.put, List.setIfInBounds_toArray, List.set_cons_zero, List.set_cons_succ]
           as_aux_lemma =>
            refine wpAnyH_take (i := 48) (oi := sop48) (v := ?_) rfl (by as_aux_lemma => kernel_rfl) (by as_aux_lemma => kernel_rfl) (by as_aux_lemma => kernel_rfl) (fun _ _ _ h => h) (Or.inl ⟨by rfl, ?_⟩) (by assumption) ?_
            rotate_left
            · unfold sop48; intro w hSw; (try dsimp only at hSw); go_simp; try (with_reducible rfl)
            try simp only [sop48, Act.put, List.setIfInBounds_toArray, List.set_cons_zero, List.set_cons_succ]
            refine wpAnyH_take (i := 49) (oi := sop49) (v := ?_) rfl (by as_aux_lemma => kernel_rfl) (by as_aux_lemma => kernel_rfl) (by as_aux_lemma => kernel_rfl) (fun _ _ _ h => h) (Or.inl ⟨by rfl, ?_⟩) (by assumption) ?_
            rotate_left
            · unfold sop49; intro w hSw; (try dsimp only at hSw); go_simp; try (with_reducible rfl)
            try simp only [sop49, Act.put, List.setIfInBounds_toArray, List.set_cons_zero, List.set_cons_succ]
            refine wpAnyH_take (i := 50) (oi := sop50) (v := ?_) rfl (by as_aux_lemma => kernel_rfl) (by as_aux_lemma => kernel_rfl) (by as_aux_lemma => kernel_rfl) (fun _ _ _ h => h) (Or.inl ⟨by rfl, ?_⟩) (by assumption) ?_
            rotate_left
            · unfold sop50; intro w hSw; (try dsimp only at hSw); go_simp; try (with_reducible rfl)
            try simp only [sop50, Act.put, List.setIfInBounds_toArray, List.set_cons_zero, List.set_cons_succ]
            refine wpAnyH_take (i := 51) (oi := sop51) (v := ?_) rfl (by as_aux_lemma => kernel_rfl) (by as_aux_lemma => kernel_rfl) (by as_aux_lemma => kernel_rfl) (fun _ _ _ h => h) (Or.inl ⟨by rfl, ?_⟩) (by assumption) ?_
            rotate_left
            · unfold sop51; intro w hSw; (try dsimp only at hSw); go_simp; try (with_reducible rfl)
            try simp only [sop51, Act.put, List.setIfInBounds_toArray, List.set_cons_zero, List.set_cons_succ]
            refine wpAnyH_take (i := 52) (oi := sop52) (v := ?_) rfl (by as_aux_lemma => kernel_rfl) (by as_aux_lemma => kernel_rfl) (by as_aux_lemma => kernel_rfl) (fun _ _ _ h => h) (Or.inl ⟨by rfl, ?_⟩) (by assumption) ?_
            rotate_left
            · unfold sop52; intro w hSw; (try dsimp only at hSw); go_simp; try (with_reducible rfl)
            try simp only [sop52, Act.put, List.setIfInBounds_toArray, List.set_cons_zero, List.set_cons_succ]
            refine wpAnyH_take (i := 53) (oi := sop53) (v := ?_) rfl (by as_aux_lemma => kernel_rfl) (by as_aux_lemma => kernel_rfl) (by as_aux_lemma => kernel_rfl) (fun _ _ _ h => h) (Or.inl ⟨by rfl, ?_⟩) (by assumption) ?_
            rotate_left
            · unfold sop53; intro w hSw; (try dsimp only at hSw); go_simp; try (with_reducible rfl)
            try simp only [sop53, Act.put, List.setIfInBounds_toArray, List.set_cons_zero, List.set_cons_succ]
            refine wpAnyH_take (i := 55) (oi := sop55) (v := ?_) rfl (by as_aux_lemma => kernel_rfl) (by as_aux_lemma => kernel_rfl) (by as_aux_lemma => kernel_rfl) (fun _ _ _ h => h) (Or.inl ⟨by rfl, ?_⟩) (by assumption) ?_
            rotate_left
            · unfold sop55; intro w hSw; (try dsimp only at hSw); go_simp; try (with_reducible rfl)
            try simp only [sop55, Act.put, List.setIfInBounds_toArray, List.set_cons_zero, List.set_cons_succ]
            refine wpAnyH_ready (rs := [54]) (by as_aux_lemma => kernel_rfl) (by simp) ?_
            refine AllReadyH.cons (o := sop54) rfl (fun K hK => ?_) AllReadyH.nil
            unfold sop54
            go_simp
            (go_at_call 29; (with_reducible refine (HRQ.out _).mono ?_); rintro e wA ⟨rfl, blA⟩)
            try go_wp2_with fail
            refine hK.out _ _ ?_ (fun hHeld2 => ?_)
            · (refine keep7 BW0 BT_31 hcx ?_; repeat (first | exact Below.refl _ _ | refine below_drw ?_ | refine below_to ?_ (by assumption)))
            clear hK K hHeld
            have hHeld := hHeld2
            clear hHeld2
            try simp only [sop54, Act.put, List.setIfInBounds_toArray, List.set_cons_zero, List.set_cons_succ]
            as_aux_lemma =>
             refine wpAnyH_take (i := 56) (oi := sop56) (v := ?_) rfl (by as_aux_lemma => kernel_rfl) (by as_aux_lemma => kernel_rfl) (by as_aux_lemma => kernel_rfl) (fun _ _ _ h => h) (Or.inl ⟨by rfl, ?_⟩) (by assumption) ?_
             rotate_left
             · unfold sop56; intro w hSw; (try dsimp only at hSw); go_simp; try (with_reducible rfl)
             try simp only [sop56, Act.put, List.setIfInBounds_toArray, List.set_cons_zero, List.set_cons_succ]
             refine wpAnyH_take (i := 57) (oi := sop57) (v := ?_) rfl (by as_aux_lemma => kernel_rfl) (by as_aux_lemma => kernel_rfl) (by as_aux_lemma => kernel_rfl) (fun _ _ _ h => h) (Or.inl ⟨by rfl, ?_⟩) (by assumption) ?_
             rotate_left
             · unfold sop57; intro w hSw; (try dsimp only at hSw); go_simp; try (with_reducible rfl)
             try simp only [sop57, Act.put, List.setIfInBounds_toArray, List.set_cons_zero, List.set_cons_succ]
             refine wpAnyH_done (by kernel_rfl) ?_ _
             go_wp2_with fail
             go_meet
             refine ⟨rfl, ?_⟩
             refine below_to ?_ blA
             repeat (first | exact Below.refl _ _ | refine below_drw ?_ | refine below_to ?_ (by assumption))
    · have hw0 : (wN == 0) = false := by have := fun h => hA0 (HWZ.out.1 h).1; simpa using this
      have ha0 : (A == 0) = false := by simpa using hA0
      clear hA0
      refine wp_region_held_drew (S := (fun w' => w'.cell? ⟨bw, 0, none⟩ = some (.int .i64 wN) ∧ w'.cell? ⟨bw, 1, none⟩ = some (.int .i64 wD) ∧ w'.cell? ⟨bt, 0, none⟩ = some (.int .i64 N) ∧ w'.cell? ⟨bt, 1, none⟩ = some (.int .i64 D) ∧ w'.cell? ⟨g, o + j * 3, none⟩ = some (.int .i64 X) ∧ w'.cell? ⟨g, o + j * 3 + 1, none⟩ = some (.int .i64 Y) ∧ w'.cell? ⟨g, o + j * 3 + 2, none⟩ = some (.int .i64 C))) (by kernel_rfl) ?_ (fun hHeld => ?_)
      · (refine keep7 BW0 BT_31 hcx ?_; repeat (first | exact Below.refl _ _ | refine below_drw ?_ | refine below_to ?_ (by assumption)))
      refine wpAnyH_take (i := 0) (oi := sop0) (v := ?_) rfl (by as_aux_lemma => kernel_rfl) (by as_aux_lemma => kernel_rfl) (by as_aux_lemma => kernel_rfl) (fun _ _ _ h => h) (Or.inl ⟨by rfl, ?_⟩) (by assumption) ?_
      rotate_left
      · unfold sop0; intro w hSw; (try dsimp only at hSw); go_simp; try (with_reducible rfl)
      try simp only [sop0, Act.put, List.setIfInBounds_toArray, List.set_cons_zero, List.set_cons_succ]
      refine wpAnyH_take (i := 1) (oi := sop1) (v := ?_) rfl (by as_aux_lemma => kernel_rfl) (by as_aux_lemma => kernel_rfl) (by as_aux_lemma => kernel_rfl) (fun _ _ _ h => h) (Or.inl ⟨by rfl, ?_⟩) (by assumption) ?_
      rotate_left
      · unfold sop1; intro w hSw; (try dsimp only at hSw); go_simp; try (with_reducible rfl)
      try simp only [sop1, Act.put, List.setIfInBounds_toArray, List.set_cons_zero, List.set_cons_succ]
      refine wpAnyH_take (i := 2) (oi := sop2) (v := ?_) rfl (by as_aux_lemma => kernel_rfl) (by as_aux_lemma => kernel_rfl) (by as_aux_lemma => kernel_rfl) (fun _ _ _ h => h) (Or.inl ⟨by rfl, ?_⟩) (by assumption) ?_
      rotate_left
      · unfold sop2; intro w hSw; (try dsimp only at hSw); go_simp; try (with_reducible rfl)
      try simp only [sop2, Act.put, List.setIfInBounds_toArray, List.set_cons_zero, List.set_cons_succ]
      refine wpAnyH_take (i := 3) (oi := sop3) (v := ?_) rfl (by as_aux_lemma => kernel_rfl) (by as_aux_lemma => kernel_rfl) (by as_aux_lemma => kernel_rfl) (fun _ _ _ h => h) (Or.inl ⟨by rfl, ?_⟩) (by assumption) ?_
      rotate_left
      · unfold sop3; intro w hSw; (try dsimp only at hSw); go_simp; try (with_reducible rfl)
      try simp only [sop3, Act.put, List.setIfInBounds_toArray, List.set_cons_zero, List.set_cons_succ]
      refine wpAnyH_take (i := 4) (oi := sop4) (v := ?_) rfl (by as_aux_lemma => kernel_rfl) (by as_aux_lemma => kernel_rfl) (by as_aux_lemma => kernel_rfl) (fun _ _ _ h => h) (Or.inl ⟨by rfl, ?_⟩) (by assumption) ?_
      rotate_left
      · unfold sop4; intro w hSw; (try dsimp only at hSw); go_simp; try (with_reducible rfl)
      try simp only [sop4, Act.put, List.setIfInBounds_toArray, List.set_cons_zero, List.set_cons_succ]
      refine wpAnyH_take (i := 5) (oi := sop5) (v := ?_) rfl (by as_aux_lemma => kernel_rfl) (by as_aux_lemma => kernel_rfl) (by as_aux_lemma => kernel_rfl) (fun _ _ _ h => h) (Or.inl ⟨by rfl, ?_⟩) (by assumption) ?_
      rotate_left
      · unfold sop5; intro w hSw; (try dsimp only at hSw); go_simp; try (with_reducible rfl)
      try simp only [sop5, Act.put, List.setIfInBounds_toArray, List.set_cons_zero, List.set_cons_succ]
      refine wpAnyH_take (i := 6) (oi := sop6) (v := ?_) rfl (by as_aux_lemma => kernel_rfl) (by as_aux_lemma => kernel_rfl) (by as_aux_lemma => kernel_rfl) (fun _ _ _ h => h) (Or.inl ⟨by rfl, ?_⟩) (by assumption) ?_
      rotate_left
      · unfold sop6; intro w hSw; (try dsimp only at hSw); go_simp; try (with_reducible rfl)
      try simp only [sop6, Act.put, List.setIfInBounds_toArray, List.set_cons_zero, List.set_cons_succ]
      refine wpAnyH_take (i := 7) (oi := sop7) (v := ?_) rfl (by as_aux_lemma => kernel_rfl) (by as_aux_lemma => kernel_rfl) (by as_aux_lemma => kernel_rfl) (fun _ _ _ h => h) (Or.inl ⟨by rfl, ?_⟩) (by assumption) ?_
      rotate_left
      · unfold sop7; intro w hSw; (try dsimp only at hSw); go_simp; try (with_reducible rfl)
      try simp only [sop7, Act.put, List.setIfInBounds_toArray, List.set_cons_zero, List.set_cons_succ]
      refine wpAnyH_take (i := 8) (oi := sop8) (v := ?_) rfl (by as_aux_lemma => kernel_rfl) (by as_aux_lemma => kernel_rfl) (by as_aux_lemma => kernel_rfl) (fun _ _ _ h => h) (Or.inl ⟨by rfl, ?_⟩) (by assumption) ?_
      rotate_left
      · unfold sop8; intro w hSw; (try dsimp only at hSw); go_simp; try (with_reducible rfl)
      try simp only [sop8, Act.put, List.setIfInBounds_toArray, List.set_cons_zero, List.set_cons_succ]
      refine wpAnyH_take (i := 9) (oi := sop9) (v := ?_) rfl (by as_aux_lemma => kernel_rfl) (by as_aux_lemma => kernel_rfl) (by as_aux_lemma => kernel_rfl) (fun _ _ _ h => h) (Or.inl ⟨by rfl, ?_⟩) (by assumption) ?_
      rotate_left
      · unfold sop9; intro w hSw; (try dsimp only at hSw); go_simp; try (with_reducible rfl)
      try simp only [sop9, Act.put, List.setIfInBounds_toArray, List.set_cons_zero, List.set_cons_succ]
      refine wpAnyH_take (i := 10) (oi := sop10) (v := ?_) rfl (by as_aux_lemma => kernel_rfl) (by as_aux_lemma => kernel_rfl) (by as_aux_lemma => kernel_rfl) (fun _ _ _ h => h) (Or.inl ⟨by rfl, ?_⟩) (by assumption) ?_
      rotate_left
      · unfold sop10; intro w hSw; (try dsimp only at hSw); go_simp; try (with_reducible rfl)
      try simp only [sop10, Act.put, List.setIfInBounds_toArray, List.set_cons_zero, List.set_cons_succ]
      refine wpAnyH_take (i := 11) (oi := sop11) (v := ?_) rfl (by as_aux_lemma => kernel_rfl) (by as_aux_lemma => kernel_rfl) (by as_aux_lemma => kernel_rfl) (fun _ _ _ h => h) (Or.inl ⟨by rfl, ?_⟩) (by assumption) ?_
      rotate_left
      · unfold sop11; intro w hSw; (try dsimp only at hSw); go_simp; try (with_reducible rfl)
      try simp only [sop11, Act.put, List.setIfInBounds_toArray, List.set_cons_zero, List.set_cons_succ]
      as_aux_lemma =>
       refine wpAnyH_take (i := 12) (oi := sop12) (v := ?_) rfl (by as_aux_lemma => kernel_rfl) (by as_aux_lemma => kernel_rfl) (by as_aux_lemma => kernel_rfl) (fun _ _ _ h => h) (Or.inl ⟨by rfl, ?_⟩) (by assumption) ?_
       rotate_left
       · unfold sop12; intro w hSw; (try dsimp only at hSw); go_simp; try (with_reducible rfl)
       try simp only [sop12, Act.put, List.setIfInBounds_toArray, List.set_cons_zero, List.set_cons_succ]
       refine wpAnyH_take (i := 13) (oi := sop13) (v := ?_) rfl (by as_aux_lemma => kernel_rfl) (by as_aux_lemma => kernel_rfl) (by as_aux_lemma => kernel_rfl) (fun _ _ _ h => h) (Or.inl ⟨by rfl, ?_⟩) (by assumption) ?_
       rotate_left
       · unfold sop13; intro w hSw; (try dsimp only at hSw); go_simp; try (with_reducible rfl)
       try simp only [sop13, Act.put, List.setIfInBounds_toArray, List.set_cons_zero, List.set_cons_succ]
       refine wpAnyH_take (i := 14) (oi := sop14) (v := ?_) rfl (by as_aux_lemma => kernel_rfl) (by as_aux_lemma => kernel_rfl) (by as_aux_lemma => kernel_rfl) (fun _ _ _ h => h) (Or.inl ⟨by rfl, ?_⟩) (by assumption) ?_
       rotate_left
       · unfold sop14; intro w hSw; (try dsimp only at hSw); go_simp; try (with_reducible rfl)
       try simp only [sop14, Act.put, List.setIfInBounds_toArray, List.set_cons_zero, List.set_cons_succ]
       refine wpAnyH_take (i := 15) (oi := sop15) (v := ?_) rfl (by as_aux_lemma => kernel_rfl) (by as_aux_lemma => kernel_rfl) (by as_aux_lemma => kernel_rfl) (fun _ _ _ h => h) (Or.inl ⟨by rfl, ?_⟩) (by assumption) ?_
       rotate_left
       · unfold sop15; intro w hSw; (try dsimp only at hSw); go_simp; try (with_reducible rfl)
       try simp only [sop15, Act.put, List.setIfInBounds_toArray, List.set_cons_zero, List.set_cons_succ]
       refine wpAnyH_take (i := 16) (oi := sop16) (v := ?_) rfl (by as_aux_lemma => kernel_rfl) (by as_aux_lemma => kernel_rfl) (by as_aux_lemma => kernel_rfl) (fun _ _ _ h => h) (Or.inl ⟨by rfl, ?_⟩) (by assumption) ?_
       rotate_left
       · unfold sop16; intro w hSw; (try dsimp only at hSw); go_simp; try (with_reducible rfl)
       try simp only [sop16, Act.put, List.setIfInBounds_toArray, List.set_cons_zero, List.set_cons_succ]
       refine wpAnyH_take (i := 17) (oi := sop17) (v := ?_) rfl (by as_aux_lemma => kernel_rfl) (by as_aux_lemma => kernel_rfl) (by as_aux_lemma => kernel_rfl) (fun _ _ _ h => h) (Or.inl ⟨by rfl, ?_⟩) (by assumption) ?_
       rotate_left
       · unfold sop17; intro w hSw; (try dsimp only at hSw); go_simp; try (with_reducible rfl)
       try simp only [sop17, Act.put, List.setIfInBounds_toArray, List.set_cons_zero, List.set_cons_succ]
       refine wpAnyH_take (i := 18) (oi := sop18) (v := ?_) rfl (by as_aux_lemma => kernel_rfl) (by as_aux_lemma => kernel_rfl) (by as_aux_lemma => kernel_rfl) (fun _ _ _ h => h) (Or.inl ⟨by rfl, ?_⟩) (by assumption) ?_
       rotate_left
       · unfold sop18; intro w hSw; (try dsimp only at hSw); go_simp; try (with_reducible rfl)
       try simp only [sop18, Act.put, List.setIfInBounds_toArray, List.set_cons_zero, List.set_cons_succ]
       refine wpAnyH_take (i := 19) (oi := sop19) (v := ?_) rfl (by as_aux_lemma => kernel_rfl) (by as_aux_lemma => kernel_rfl) (by as_aux_lemma => kernel_rfl) (fun _ _ _ h => h) (Or.inl ⟨by rfl, ?_⟩) (by assumption) ?_
       rotate_left
       · unfold sop19; intro w hSw; (try dsimp only at hSw); go_simp; try (with_reducible rfl)
       try simp only [sop19, Act.put, List.setIfInBounds_toArray, List.set_cons_zero, List.set_cons_succ]
       refine wpAnyH_take (i := 20) (oi := sop20) (v := ?_) rfl (by as_aux_lemma => kernel_rfl) (by as_aux_lemma => kernel_rfl) (by as_aux_lemma => kernel_rfl) (fun _ _ _ h => h) (Or.inl ⟨by rfl, ?_⟩) (by assumption) ?_
       rotate_left
       · unfold sop20; intro w hSw; (try dsimp only at hSw); go_simp; try (with_reducible rfl)
       try simp only [sop20, Act.put, List.setIfInBounds_toArray, List.set_cons_zero, List.set_cons_succ]
       refine wpAnyH_take (i := 21) (oi := sop21) (v := ?_) rfl (by as_aux_lemma => kernel_rfl) (by as_aux_lemma => kernel_rfl) (by as_aux_lemma => kernel_rfl) (fun _ _ _ h => h) (Or.inl ⟨by rfl, ?_⟩) (by assumption) ?_
       rotate_left
       · unfold sop21; intro w hSw; (try dsimp only at hSw); go_simp; try (with_reducible rfl)
       try simp only [sop21, Act.put, List.setIfInBounds_toArray, List.set_cons_zero, List.set_cons_succ]
       refine wpAnyH_take (i := 22) (oi := sop22) (v := ?_) rfl (by as_aux_lemma => kernel_rfl) (by as_aux_lemma => kernel_rfl) (by as_aux_lemma => kernel_rfl) (fun _ _ _ h => h) (Or.inl ⟨by rfl, ?_⟩) (by assumption) ?_
       rotate_left
       · unfold sop22; intro w hSw; (try dsimp only at hSw); go_simp; try (with_reducible rfl)
       try simp only [sop22, Act.put, List.setIfInBounds_toArray, List.set_cons_zero, List.set_cons_succ]
       refine wpAnyH_take (i := 23) (oi := sop23) (v := ?_) rfl (by as_aux_lemma => kernel_rfl) (by as_aux_lemma => kernel_rfl) (by as_aux_lemma => kernel_rfl) (fun _ _ _ h => h) (Or.inl ⟨by rfl, ?_⟩) (by assumption) ?_
       rotate_left
       · unfold sop23; intro w hSw; (try dsimp only at hSw); go_simp; try (with_reducible rfl)
       try simp only [sop23, Act.put, List.setIfInBounds_toArray, List.set_cons_zero, List.set_cons_succ]
       as_aux_lemma =>
        refine wpAnyH_take (i := 24) (oi := sop24) (v := ?_) rfl (by as_aux_lemma => kernel_rfl) (by as_aux_lemma => kernel_rfl) (by as_aux_lemma => kernel_rfl) (fun _ _ _ h => h) (Or.inl ⟨by rfl, ?_⟩) (by assumption) ?_
        rotate_left
        · unfold sop24; intro w hSw; (try dsimp only at hSw); go_simp; try (with_reducible rfl)
        try simp only [sop24, Act.put, List.setIfInBounds_toArray, List.set_cons_zero, List.set_cons_succ]
        refine wpAnyH_take (i := 25) (oi := sop25) (v := ?_) rfl (by as_aux_lemma => kernel_rfl) (by as_aux_lemma => kernel_rfl) (by as_aux_lemma => kernel_rfl) (fun _ _ _ h => h) (Or.inl ⟨by rfl, ?_⟩) (by assumption) ?_
        rotate_left
        · unfold sop25; intro w hSw; (try dsimp only at hSw); go_simp; try (with_reducible rfl)
        try simp only [sop25, Act.put, List.setIfInBounds_toArray, List.set_cons_zero, List.set_cons_succ]
        refine wpAnyH_take (i := 26) (oi := sop26) (v := ?_) rfl (by as_aux_lemma => kernel_rfl) (by as_aux_lemma => kernel_rfl) (by as_aux_lemma => kernel_rfl) (fun _ _ _ h => h) (Or.inl ⟨by rfl, ?_⟩) (by assumption) ?_
        rotate_left
        · unfold sop26; intro w hSw; (try dsimp only at hSw); go_simp; try (with_reducible rfl)
        try simp only [sop26, Act.put, List.setIfInBounds_toArray, List.set_cons_zero, List.set_cons_succ]
        refine wpAnyH_take (i := 27) (oi := sop27) (v := ?_) rfl (by as_aux_lemma => kernel_rfl) (by as_aux_lemma => kernel_rfl) (by as_aux_lemma => kernel_rfl) (fun _ _ _ h => h) (Or.inl ⟨by rfl, ?_⟩) (by assumption) ?_
        rotate_left
        · unfold sop27; intro w hSw; (try dsimp only at hSw); go_simp; try (with_reducible rfl)
        try simp only [sop27, Act.put, List.setIfInBounds_toArray, List.set_cons_zero, List.set_cons_succ]
        refine wpAnyH_take (i := 28) (oi := sop28) (v := undef) rfl (by as_aux_lemma => kernel_rfl) (by as_aux_lemma => kernel_rfl) (by as_aux_lemma => kernel_rfl) (fun _ _ _ h => h) (Or.inr ⟨by rfl, rfl⟩) (by assumption) ?_
        try simp only [sop28, Act.put, List.setIfInBounds_toArray, List.set_cons_zero, List.set_cons_succ]
        refine wpAnyH_take (i := 29) (oi := sop29) (v := undef) rfl (by as_aux_lemma => kernel_rfl) (by as_aux_lemma => kernel_rfl) (by as_aux_lemma => kernel_rfl) (fun _ _ _ h => h) (Or.inr ⟨by rfl, rfl⟩) (by assumption) ?_
        try simp only [sop29, Act.put, List.setIfInBounds_toArray, List.set_cons_zero, List.set_cons_succ]
        refine wpAnyH_take (i := 30) (oi := sop30) (v := ?_) rfl (by as_aux_lemma => kernel_rfl) (by as_aux_lemma => kernel_rfl) (by as_aux_lemma => kernel_rfl) (fun _ _ _ h => h) (Or.inl ⟨by rfl, ?_⟩) (by assumption) ?_
        rotate_left
        · unfold sop30; intro w hSw; (try dsimp only at hSw); go_simp; try (with_reducible rfl)
        try simp only [sop30, Act.put, List.setIfInBounds_toArray, List.set_cons_zero, List.set_cons_succ]
        refine wpAnyH_take (i := 31) (oi := sop31) (v := ?_) rfl (by as_aux_lemma => kernel_rfl) (by as_aux_lemma => kernel_rfl) (by as_aux_lemma => kernel_rfl) (fun _ _ _ h => h) (Or.inl ⟨by rfl, ?_⟩) (by assumption) ?_
        rotate_left
        · unfold sop31; intro w hSw; (try dsimp only at hSw); go_simp; try (with_reducible rfl)
        try simp only [sop31, Act.put, List.setIfInBounds_toArray, List.set_cons_zero, List.set_cons_succ]
        refine wpAnyH_take (i := 32) (oi := sop32) (v := ?_) rfl (by as_aux_lemma => kernel_rfl) (by as_aux_lemma => kernel_rfl) (by as_aux_lemma => kernel_rfl) (fun _ _ _ h => h) (Or.inl ⟨by rfl, ?_⟩) (by assumption) ?_
        rotate_left
        · unfold sop32; intro w hSw; (try dsimp only at hSw); go_simp; try (with_reducible rfl)
        try simp only [sop32, Act.put, List.setIfInBounds_toArray, List.set_cons_zero, List.set_cons_succ]
        refine wpAnyH_take (i := 33) (oi := sop33) (v := ?_) rfl (by as_aux_lemma => kernel_rfl) (by as_aux_lemma => kernel_rfl) (by as_aux_lemma => kernel_rfl) (fun _ _ _ h => h) (Or.inl ⟨by rfl, ?_⟩) (by assumption) ?_
        rotate_left
        · unfold sop33; intro w hSw; (try dsimp only at hSw); go_simp; try (with_reducible rfl)
        try simp only [sop33, Act.put, List.setIfInBounds_toArray, List.set_cons_zero, List.set_cons_succ]
        refine wpAnyH_take (i := 34) (oi := sop34) (v := ?_) rfl (by as_aux_lemma => kernel_rfl) (by as_aux_lemma => kernel_rfl) (by as_aux_lemma => kernel_rfl) (fun _ _ _ h => h) (Or.inl ⟨by rfl, ?_⟩) (by assumption) ?_
        rotate_left
        · unfold sop34; intro w hSw; (try dsimp only at hSw); go_simp; try (with_reducible rfl)
        try simp only [sop34, Act.put, List.setIfInBounds_toArray, List.set_cons_zero, List.set_cons_succ]
        refine wpAnyH_take (i := 35) (oi := sop35) (v := ?_) rfl (by as_aux_lemma => kernel_rfl) (by as_aux_lemma => kernel_rfl) (by as_aux_lemma => kernel_rfl) (fun _ _ _ h => h) (Or.inl ⟨by rfl, ?_⟩) (by assumption) ?_
        rotate_left
        · unfold sop35; intro w hSw; (try dsimp only at hSw); go_simp; try (with_reducible rfl)
        try simp only [sop35, Act.put, List.setIfInBounds_toArray, List.set_cons_zero, List.set_cons_succ]
        refine wpAnyH_take (i := 36) (oi := sop36) (v := ?_) rfl (by as_aux_lemma => kernel_rfl) (by as_aux_lemma => kernel_rfl) (by as_aux_lemma => kernel_rfl) (fun _ _ _ h => h) (Or.inl ⟨by rfl, ?_⟩) (by assumption) ?_
        rotate_left
        · unfold sop36; intro w hSw; (try dsimp only at hSw); go_simp; try (with_reducible rfl)
        try simp only [sop36, Act.put, List.setIfInBounds_toArray, List.set_cons_zero, List.set_cons_succ]
        refine wpAnyH_take (i := 37) (oi := sop37) (v := ?_) rfl (by as_aux_lemma => kernel_rfl) (by as_aux_lemma => kernel_rfl) (by as_aux_lemma => kernel_rfl) (fun _ _ _ h => h) (Or.inl ⟨by rfl, ?_⟩) (by assumption) ?_
        rotate_left
        · unfold sop37; intro w hSw; (try dsimp only at hSw); go_simp; try (with_reducible rfl)
        try simp only [sop37, Act.put, List.setIfInBounds_toArray, List.set_cons_zero, List.set_cons_succ]
        as_aux_lemma =>
         refine wpAnyH_take (i := 38) (oi := sop38) (v := ?_) rfl (by as_aux_lemma => kernel_rfl) (by as_aux_lemma => kernel_rfl) (by as_aux_lemma => kernel_rfl) (fun _ _ _ h => h) (Or.inl ⟨by rfl, ?_⟩) (by assumption) ?_
         rotate_left
         · unfold sop38; intro w hSw; (try dsimp only at hSw); go_simp; try (with_reducible rfl)
         try simp only [sop38, Act.put, List.setIfInBounds_toArray, List.set_cons_zero, List.set_cons_succ]
         refine wpAnyH_take (i := 39) (oi := sop39) (v := ?_) rfl (by as_aux_lemma => kernel_rfl) (by as_aux_lemma => kernel_rfl) (by as_aux_lemma => kernel_rfl) (fun _ _ _ h => h) (Or.inl ⟨by rfl, ?_⟩) (by assumption) ?_
         rotate_left
         · unfold sop39; intro w hSw; (try dsimp only at hSw); go_simp; try (with_reducible rfl)
         try simp only [sop39, Act.put, List.setIfInBounds_toArray, List.set_cons_zero, List.set_cons_succ]
         refine wpAnyH_take (i := 40) (oi := sop40) (v := ?_) rfl (by as_aux_lemma => kernel_rfl) (by as_aux_lemma => kernel_rfl) (by as_aux_lemma => kernel_rfl) (fun _ _ _ h => h) (Or.inl ⟨by rfl, ?_⟩) (by assumption) ?_
         rotate_left
         · unfold sop40; intro w hSw; (try dsimp only at hSw); go_simp; try (with_reducible rfl)
         try simp only [sop40, Act.put, List.setIfInBounds_toArray, List.set_cons_zero, List.set_cons_succ]
         refine wpAnyH_take (i := 41) (oi := sop41) (v := ?_) rfl (by as_aux_lemma => kernel_rfl) (by as_aux_lemma => kernel_rfl) (by as_aux_lemma => kernel_rfl) (fun _ _ _ h => h) (Or.inl ⟨by rfl, ?_⟩) (by assumption) ?_
         rotate_left
         · unfold sop41; intro w hSw; (try dsimp only at hSw); go_simp; try (with_reducible rfl)
         try simp only [sop41, Act.put, List.setIfInBounds_toArray, List.set_cons_zero, List.set_cons_succ]
         refine wpAnyH_take (i := 42) (oi := sop42) (v := ?_) rfl (by as_aux_lemma => kernel_rfl) (by as_aux_lemma => kernel_rfl) (by as_aux_lemma => kernel_rfl) (fun _ _ _ h => h) (Or.inl ⟨by rfl, ?_⟩) (by assumption) ?_
         rotate_left
         · unfold sop42; intro w hSw; (try dsimp only at hSw); go_simp; try (with_reducible rfl)
         try simp only [sop42, Act.put, List.setIfInBounds_toArray, List.set_cons_zero, List.set_cons_succ]
         refine wpAnyH_take (i := 43) (oi := sop43) (v := ?_) rfl (by as_aux_lemma => kernel_rfl) (by as_aux_lemma => kernel_rfl) (by as_aux_lemma => kernel_rfl) (fun _ _ _ h => h) (Or.inl ⟨by rfl, ?_⟩) (by assumption) ?_
         rotate_left
         · unfold sop43; intro w hSw; (try dsimp only at hSw); go_simp; try (with_reducible rfl)
         try simp only [sop43, Act.put, List.setIfInBounds_toArray, List.set_cons_zero, List.set_cons_succ]
         refine wpAnyH_take (i := 44) (oi := sop44) (v := ?_) rfl (by as_aux_lemma => kernel_rfl) (by as_aux_lemma => kernel_rfl) (by as_aux_lemma => kernel_rfl) (fun _ _ _ h => h) (Or.inl ⟨by rfl, ?_⟩) (by assumption) ?_
         rotate_left
         · unfold sop44; intro w hSw; (try dsimp only at hSw); go_simp; try (with_reducible rfl)
         try simp only [sop44, Act.put, List.setIfInBounds_toArray, List.set_cons_zero, List.set_cons_succ]
         refine wpAnyH_take (i := 45) (oi := sop45) (v := ?_) rfl (by as_aux_lemma => kernel_rfl) (by as_aux_lemma => kernel_rfl) (by as_aux_lemma => kernel_rfl) (fun _ _ _ h => h) (Or.inl ⟨by rfl, ?_⟩) (by assumption) ?_
         rotate_left
         · unfold sop45; intro w hSw; (try dsimp only at hSw); go_simp; try (with_reducible rfl)
         try simp only [sop45, Act.put, List.setIfInBounds_toArray, List.set_cons_zero, List.set_cons_succ]
         refine wpAnyH_take (i := 46) (oi := sop46) (v := ?_) rfl (by as_aux_lemma => kernel_rfl) (by as_aux_lemma => kernel_rfl) (by as_aux_lemma => kernel_rfl) (fun _ _ _ h => h) (Or.inl ⟨by rfl, ?_⟩) (by assumption) ?_
         rotate_left
         · unfold sop46; intro w hSw; (try dsimp only at hSw); go_simp; try (with_reducible rfl)
         try simp only [sop46, Act.put, List.setIfInBounds_toArray, List.set_cons_zero, List.set_cons_succ]
         refine wpAnyH_take (i := 47) (oi := sop47) (v := ?_) rfl (by as_aux_lemma => kernel_rfl) (by as_aux_lemma => kernel_rfl) (by as_aux_lemma => kernel_rfl) (fun _ _ _ h => h) (Or.inl ⟨by rfl, ?_⟩) (by assumption) ?_
         rotate_left
         · unfold sop47; intro w hSw; (try dsimp only at hSw); go_simp; try (with_reducible rfl)
         try simp only [sop47, Act.put, List.setIfInBounds_toArray, List.set_cons_zero, List.set_cons_succ]
         refine wpAnyH_take (i := 48) (oi := sop48) (v := ?_) rfl (by as_aux_lemma => kernel_rfl) (by as_aux_lemma => kernel_rfl) (by as_aux_lemma => kernel_rfl) (fun _ _ _ h => h) (Or.inl ⟨by rfl, ?_⟩) (by assumption) ?_
         rotate_left
         · unfold sop48; intro w hSw; (try dsimp only at hSw); go_simp; try (with_reducible rfl)
         try simp only [sop48, Act.put, List.setIfInBounds_toArray, List.set_cons_zero, List.set_cons_succ]
         refine wpAnyH_take (i := 49) (oi := sop49) (v := ?_) rfl (by as_aux_lemma => kernel_rfl) (by as_aux_lemma => kernel_rfl) (by as_aux_lemma => kernel_rfl) (fun _ _ _ h => h) (Or.inl ⟨by rfl, ?_⟩) (by assumption) ?_
         rotate_left
         · unfold sop49; intro w hSw; (try dsimp only at hSw); go_simp; try (with_reducible rfl)
         try simp only [sop49, Act.put, List.setIfInBounds_toArray, List.set_cons_zero, List.set_cons_succ]
         as_aux_lemma =>
          refine wpAnyH_take (i := 50) (oi := sop50) (v := ?_) rfl (by as_aux_lemma => kernel_rfl) (by as_aux_lemma => kernel_rfl) (by as_aux_lemma => kernel_rfl) (fun _ _ _ h => h) (Or.inl ⟨by rfl, ?_⟩) (by assumption) ?_
          rotate_left
          · unfold sop50; intro w hSw; (try dsimp only at hSw); go_simp; try (with_reducible rfl)
          try simp only [sop50, Act.put, List.setIfInBounds_toArray, List.set_cons_zero, List.set_cons_succ]
          refine wpAnyH_take (i := 51) (oi := sop51) (v := ?_) rfl (by as_aux_lemma => kernel_rfl) (by as_aux_lemma => kernel_rfl) (by as_aux_lemma => kernel_rfl) (fun _ _ _ h => h) (Or.inl ⟨by rfl, ?_⟩) (by assumption) ?_
          rotate_left
          · unfold sop51; intro w hSw; (try dsimp only at hSw); go_simp; try (with_reducible rfl)
          try simp only [sop51, Act.put, List.setIfInBounds_toArray, List.set_cons_zero, List.set_cons_succ]
          refine wpAnyH_take (i := 52) (oi := sop52) (v := ?_) rfl (by as_aux_lemma => kernel_rfl) (by as_aux_lemma => kernel_rfl) (by as_aux_lemma => kernel_rfl) (fun _ _ _ h => h) (Or.inl ⟨by rfl, ?_⟩) (by assumption) ?_
          rotate_left
          · unfold sop52; intro w hSw; (try dsimp only at hSw); go_simp; try (with_reducible rfl)
          try simp only [sop52, Act.put, List.setIfInBounds_toArray, List.set_cons_zero, List.set_cons_succ]
          refine wpAnyH_take (i := 53) (oi := sop53) (v := ?_) rfl (by as_aux_lemma => kernel_rfl) (by as_aux_lemma => kernel_rfl) (by as_aux_lemma => kernel_rfl) (fun _ _ _ h => h) (Or.inl ⟨by rfl, ?_⟩) (by assumption) ?_
          rotate_left
          · unfold sop53; intro w hSw; (try dsimp only at hSw); go_simp; try (with_reducible rfl)
          try simp only [sop53, Act.put, List.setIfInBounds_toArray, List.set_cons_zero, List.set_cons_succ]
          refine wpAnyH_take (i := 55) (oi := sop55) (v := ?_) rfl (by as_aux_lemma => kernel_rfl) (by as_aux_lemma => kernel_rfl) (by as_aux_lemma => kernel_rfl) (fun _ _ _ h => h) (Or.inl ⟨by rfl, ?_⟩) (by assumption) ?_
          rotate_left
          · unfold sop55; intro w hSw; (try dsimp only at hSw); go_simp; try (with_reducible rfl)
          try simp only [sop55, Act.put, List.setIfInBounds_toArray, List.set_cons_zero, List.set_cons_succ]
          refine wpAnyH_ready (rs := [54]) (by as_aux_lemma => kernel_rfl) (by simp) ?_
          refine AllReadyH.cons (o := sop54) rfl (fun K hK => ?_) AllReadyH.nil
          unfold sop54
          go_simp
          (go_at_call 29; (with_reducible refine (HRQ.out _).mono ?_); rintro e wA ⟨rfl, blA⟩)
          try go_wp2_with fail
          refine hK.out _ _ ?_ (fun hHeld2 => ?_)
          · (refine keep7 BW0 BT_31 hcx ?_; repeat (first | exact Below.refl _ _ | refine below_drw ?_ | refine below_to ?_ (by assumption)))
          clear hK K hHeld
          have hHeld := hHeld2
          clear hHeld2
          try simp only [sop54, Act.put, List.setIfInBounds_toArray, List.set_cons_zero, List.set_cons_succ]
          as_aux_lemma =>
           refine wpAnyH_take (i := 56) (oi := sop56) (v := ?_) rfl (by as_aux_lemma => kernel_rfl) (by as_aux_lemma => kernel_rfl) (by as_aux_lemma => kernel_rfl) (fun _ _ _ h => h) (Or.inl ⟨by rfl, ?_⟩) (by assumption) ?_
           rotate_left
           · unfold sop56; intro w hSw; (try dsimp only at hSw); go_simp; try (with_reducible rfl)
           try simp only [sop56, Act.put, List.setIfInBounds_toArray, List.set_cons_zero, List.set_cons_succ]
           refine wpAnyH_take (i := 57) (oi := sop57) (v := ?_) rfl (by as_aux_lemma => kernel_rfl) (by as_aux_lemma => kernel_rfl) (by as_aux_lemma => kernel_rfl) (fun _ _ _ h => h) (Or.inl ⟨by rfl, ?_⟩) (by assumption) ?_
           rotate_left
           · unfold sop57; intro w hSw; (try dsimp only at hSw); go_simp; try (with_reducible rfl)
           try simp only [sop57, Act.put, List.setIfInBounds_toArray, List.set_cons_zero, List.set_cons_succ]
           refine wpAnyH_done (by kernel_rfl) ?_ _
           go_wp2_with fail
           go_meet
           refine ⟨rfl, ?_⟩
           refine below_to ?_ blA
           repeat (first | exact Below.refl _ _ | refine below_drw ?_ | refine below_to ?_ (by assumption))
  case rest =>
    obtain ⟨rfl, hb6⟩ := hcut
    rename World => wc
    have b_33 := below_to b_28 hb6
    have Hps_34 := Lib.hid (Hps_29.out.below hb6)
    have BP_35 := BP_30.to hb6
    have BT_36 := BT_31.to hb6
    have BW_37 := BW0.to hb6
    clear b_28 Hps_29 BP_30 BT_31 BW0
    clear hb6 hcx xu xt xs hu ht m1 m2 m3 m4 HRQ HWZ wP HXJ
    go_wp2
    go_loopw [12] (fun i wr => ∃ k : Nat, k ≤ 12 ∧ i = .int .i64 k ∧ Below w.heap.size w wr ∧ Below wc.heap.size wc wr) (fun i _ => 12 - (intOf i).toNat)
    case atStart => exact ⟨0, by omega, rfl, b_33, Below.refl _ _⟩
    case round =>
      obtain ⟨k, hk, rfl, hbw, hb4⟩ := hrel
      clear b_33
      have Hps_38 := Lib.hid (Hps_34.out.below hb4)
      have BP_39 := BP_35.to hb4
      have BT_40 := BT_36.to hb4
      by_cases hk12 : k < 12
      · have v1 : IntKind.i64.wrap (4 * (k : Int)) = 4 * (k : Int) := IntWalk.i64_in _ (by omega)
        have v2 : IntKind.i64.wrap (60 + 4 * (k : Int)) = ((60 + 4 * k : Nat) : Int) := by rw [IntWalk.i64_in _ (by omega)]; omega
        have hkk : (k : Int) < 12 := by omega
        go_wp2_with fail
        refine (make_whole wr a len cap (60 + 4 * k) (by omega) hl (HB.out.below hbw)).mono ?_
        rintro e w5 ⟨SX, SY, hXY, rfl, bl⟩
        clear v1 v2
        have Hps_41 := Lib.hid (Hps_38.out.below bl)
        have BP_42 := BP_39.to bl
        have BT_43 := BT_40.to bl
        have b_44 := below_to hbw bl
        have b4_45 := below_to hb4 bl
        clear Hps_38 BP_39 BT_40 hbw hb4
        clear bl
        have HSO := Lib.hid (whole_ok (x := SX) (y := SY) (by omega) (by omega))
        have HHS := Lib.hid (fun V (h : HsAt V ap ps) => impl_has ap p cp ps SX SY 1 V HLps.out (by omega) H64.out (okS64' HSO.out) h)
        obtain ⟨m1, m2⟩ := ten_in hA hB hXY
        have HCM := Lib.hid (fun (k : hasB ps SX SY 1 = true) => HIN.out SX SY 1 (by omega) ((has_iff HR.out HN.out HSO.out).1 k))
        obtain ⟨u, hu⟩ : ∃ u, A * SX = u := ⟨_, rfl⟩
        obtain ⟨t, ht⟩ : ∃ u, B * SY = u := ⟨_, rfl⟩
        rw [hu] at m1 HCM
        rw [ht] at m2 HCM
        have HRQ := Lib.hid (fun V => impl_ofA (u + t) 1 V (by omega) (by omega) (by omega) (by omega))
        obtain ⟨o1, o2, o3⟩ := of_one (n := u + t) (by omega)
        rw [o1, o2] at HRQ
        have HCP := Lib.hid (fun V => impl_cmp (u + t) 1 N D V (by omega) (by omega) (by omega) (by omega) (by omega) (by omega) (by omega) (by omega))
        have HCL := Lib.hid (fun (h : (u + t) * D ≤ N * 1) => cmp_le o3 HOT.out h)
        generalize cmpO (u + t) 1 N D = cv at *
        have xu : IntKind.i64.wrap u = u := IntWalk.i64_in _ (by omega)
        have xt : IntKind.i64.wrap t = t := IntWalk.i64_in _ (by omega)
        have xs : IntKind.i64.wrap (u + t) = u + t := IntWalk.i64_in _ (by omega)
        clear o1 o2 o3 hXY
        have bN := below_one w5 (.cells #[.int .i64 SX, .int .i64 SY, .int .i64 1] 31)
        have BS0 := blk_new w5 #[.int .i64 SX, .int .i64 SY, .int .i64 1] 31 rfl
        have Hps_46 := Lib.hid (Hps_41.out.below bN)
        have BP_47 := BP_42.to bN
        have BT_48 := BT_43.to bN
        have b_49 := below_to b_44 bN
        have b4_50 := below_to b4_45 bN
        clear Hps_41 BP_42 BT_43 b_44 b4_45
        clear bN
        go_wp2_with fail
        generalize w5.alloc (.cells #[.int .i64 SX, .int .i64 SY, .int .i64 1] 31) = U5 at *
        obtain ⟨bs, hbk⟩ : ∃ b, w5.heap.size = b := ⟨_, rfl⟩
        rw [hbk] at BS0 ⊢
        clear hbk
        go_cut [131] from 114 to 131 (fun s6 wx => s6 = .bool false ∧ Below U5.heap.size U5 wx)
        case first =>
          cases hH : hasB ps SX SY 1 with
          | false =>
            rw [hH] at HHS
            clear hH
            refine wp_region_held_drew (S := (fun w' => w'.cell? ⟨bp, 0, none⟩ = some (.slice ap p cp) ∧ w'.cell? ⟨bt, 0, none⟩ = some (.int .i64 N) ∧ w'.cell? ⟨bt, 1, none⟩ = some (.int .i64 D) ∧ w'.cell? ⟨bs, 0, none⟩ = some (.int .i64 SX) ∧ w'.cell? ⟨bs, 1, none⟩ = some (.int .i64 SY) ∧ w'.cell? ⟨bs, 2, none⟩ = some (.int .i64 1))) (by kernel_rfl) ?_ (fun hHeld => ?_)
            · (refine keep6 BP_47 BT_48 BS0 ?_; repeat (first | exact Below.refl _ _ | refine below_drw ?_ | refine below_to ?_ (by assumption)))
            refine wpAnyH_take (i := 0) (oi := sor0) (v := ?_) rfl (by as_aux_lemma => kernel_rfl) (by as_aux_lemma => kernel_rfl) (by as_aux_lemma => kernel_rfl) (fun _ _ _ h => h) (Or.inl ⟨by rfl, ?_⟩) (by assumption) ?_
            rotate_left
            · unfold sor0; intro w hSw; (try dsimp only at hSw); go_simp; try (with_reducible rfl)
            try simp only [sor0, Act.put, List.setIfInBounds_toArray, List.set_cons_zero, List.set_cons_succ]
            refine wpAnyH_take (i := 1) (oi := sor1) (v := ?_) rfl (by as_aux_lemma => kernel_rfl) (by as_aux_lemma => kernel_rfl) (by as_aux_lemma => kernel_rfl) (fun _ _ _ h => h) (Or.inl ⟨by rfl, ?_⟩) (by assumption) ?_
            rotate_left
            · unfold sor1; intro w hSw; (try dsimp only at hSw); go_simp; try (with_reducible rfl)
            try simp only [sor1, Act.put, List.setIfInBounds_toArray, List.set_cons_zero, List.set_cons_succ]
            refine wpAnyH_ready (rs := [2]) (by as_aux_lemma => kernel_rfl) (by simp) ?_
            refine AllReadyH.cons (o := sor2) rfl (fun K hK => ?_) AllReadyH.nil
            unfold sor2
            go_simp
            (go_at_call 13; (with_reducible refine (HHS.out _ ?_).mono ?_); (focus ((refine Hps_46.out.below ?_); repeat (first | exact Below.refl _ _ | refine below_drw ?_ | refine below_to ?_ (by assumption)))); rintro e vv0 ⟨rfl, bw0⟩)
            try go_wp2_with fail
            refine hK.out _ _ ?_ (fun hHeld2 => ?_)
            · (refine keep6 BP_47 BT_48 BS0 ?_; repeat (first | exact Below.refl _ _ | refine below_drw ?_ | refine below_to ?_ (by assumption)))
            clear hK K hHeld
            have hHeld := hHeld2
            clear hHeld2
            try simp only [sor2, Act.put, List.setIfInBounds_toArray, List.set_cons_zero, List.set_cons_succ]
            as_aux_lemma =>
             refine wpAnyH_take (i := 3) (oi := sor3) (v := ?_) rfl (by as_aux_lemma => kernel_rfl) (by as_aux_lemma => kernel_rfl) (by as_aux_lemma => kernel_rfl) (fun _ _ _ h => h) (Or.inl ⟨by rfl, ?_⟩) (by assumption) ?_
             rotate_left
             · unfold sor3; intro w hSw; (try dsimp only at hSw); go_simp; try (with_reducible rfl)
             try simp only [sor3, Act.put, List.setIfInBounds_toArray, List.set_cons_zero, List.set_cons_succ]
             refine wpAnyH_take (i := 4) (oi := sor4) (v := undef) rfl (by as_aux_lemma => kernel_rfl) (by as_aux_lemma => kernel_rfl) (by as_aux_lemma => kernel_rfl) (fun _ _ _ h => h) (Or.inr ⟨by rfl, rfl⟩) (by assumption) ?_
             try simp only [sor4, Act.put, List.setIfInBounds_toArray, List.set_cons_zero, List.set_cons_succ]
             refine wpAnyH_take (i := 5) (oi := sor5) (v := undef) rfl (by as_aux_lemma => kernel_rfl) (by as_aux_lemma => kernel_rfl) (by as_aux_lemma => kernel_rfl) (fun _ _ _ h => h) (Or.inr ⟨by rfl, rfl⟩) (by assumption) ?_
             try simp only [sor5, Act.put, List.setIfInBounds_toArray, List.set_cons_zero, List.set_cons_succ]
             refine wpAnyH_take (i := 6) (oi := sor6) (v := undef) rfl (by as_aux_lemma => kernel_rfl) (by as_aux_lemma => kernel_rfl) (by as_aux_lemma => kernel_rfl) (fun _ _ _ h => h) (Or.inr ⟨by rfl, rfl⟩) (by assumption) ?_
             try simp only [sor6, Act.put, List.setIfInBounds_toArray, List.set_cons_zero, List.set_cons_succ]
             refine wpAnyH_take (i := 7) (oi := sor7) (v := undef) rfl (by as_aux_lemma => kernel_rfl) (by as_aux_lemma => kernel_rfl) (by as_aux_lemma => kernel_rfl) (fun _ _ _ h => h) (Or.inr ⟨by rfl, rfl⟩) (by assumption) ?_
             try simp only [sor7, Act.put, List.setIfInBounds_toArray, List.set_cons_zero, List.set_cons_succ]
             refine wpAnyH_take (i := 8) (oi := sor8) (v := undef) rfl (by as_aux_lemma => kernel_rfl) (by as_aux_lemma => kernel_rfl) (by as_aux_lemma => kernel_rfl) (fun _ _ _ h => h) (Or.inr ⟨by rfl, rfl⟩) (by assumption) ?_
             try simp only [sor8, Act.put, List.setIfInBounds_toArray, List.set_cons_zero, List.set_cons_succ]
             refine wpAnyH_take (i := 9) (oi := sor9) (v := undef) rfl (by as_aux_lemma => kernel_rfl) (by as_aux_lemma => kernel_rfl) (by as_aux_lemma => kernel_rfl) (fun _ _ _ h => h) (Or.inr ⟨by rfl, rfl⟩) (by assumption) ?_
             try simp only [sor9, Act.put, List.setIfInBounds_toArray, List.set_cons_zero, List.set_cons_succ]
             refine wpAnyH_take (i := 10) (oi := sor10) (v := undef) rfl (by as_aux_lemma => kernel_rfl) (by as_aux_lemma => kernel_rfl) (by as_aux_lemma => kernel_rfl) (fun _ _ _ h => h) (Or.inr ⟨by rfl, rfl⟩) (by assumption) ?_
             try simp only [sor10, Act.put, List.setIfInBounds_toArray, List.set_cons_zero, List.set_cons_succ]
             refine wpAnyH_take (i := 11) (oi := sor11) (v := undef) rfl (by as_aux_lemma => kernel_rfl) (by as_aux_lemma => kernel_rfl) (by as_aux_lemma => kernel_rfl) (fun _ _ _ h => h) (Or.inr ⟨by rfl, rfl⟩) (by assumption) ?_
             try simp only [sor11, Act.put, List.setIfInBounds_toArray, List.set_cons_zero, List.set_cons_succ]
             refine wpAnyH_take (i := 12) (oi := sor12) (v := undef) rfl (by as_aux_lemma => kernel_rfl) (by as_aux_lemma => kernel_rfl) (by as_aux_lemma => kernel_rfl) (fun _ _ _ h => h) (Or.inr ⟨by rfl, rfl⟩) (by assumption) ?_
             try simp only [sor12, Act.put, List.setIfInBounds_toArray, List.set_cons_zero, List.set_cons_succ]
             refine wpAnyH_take (i := 13) (oi := sor13) (v := undef) rfl (by as_aux_lemma => kernel_rfl) (by as_aux_lemma => kernel_rfl) (by as_aux_lemma => kernel_rfl) (fun _ _ _ h => h) (Or.inr ⟨by rfl, rfl⟩) (by assumption) ?_
             try simp only [sor13, Act.put, List.setIfInBounds_toArray, List.set_cons_zero, List.set_cons_succ]
             refine wpAnyH_take (i := 14) (oi := sor14) (v := undef) rfl (by as_aux_lemma => kernel_rfl) (by as_aux_lemma => kernel_rfl) (by as_aux_lemma => kernel_rfl) (fun _ _ _ h => h) (Or.inr ⟨by rfl, rfl⟩) (by assumption) ?_
             try simp only [sor14, Act.put, List.setIfInBounds_toArray, List.set_cons_zero, List.set_cons_succ]
             refine wpAnyH_take (i := 15) (oi := sor15) (v := undef) rfl (by as_aux_lemma => kernel_rfl) (by as_aux_lemma => kernel_rfl) (by as_aux_lemma => kernel_rfl) (fun _ _ _ h => h) (Or.inr ⟨by rfl, rfl⟩) (by assumption) ?_
             try simp only [sor15, Act.put, List.setIfInBounds_toArray, List.set_cons_zero, List.set_cons_succ]
             refine wpAnyH_take (i := 16) (oi := sor16) (v := undef) rfl (by as_aux_lemma => kernel_rfl) (by as_aux_lemma => kernel_rfl) (by as_aux_lemma => kernel_rfl) (fun _ _ _ h => h) (Or.inr ⟨by rfl, rfl⟩) (by assumption) ?_
             try simp only [sor16, Act.put, List.setIfInBounds_toArray, List.set_cons_zero, List.set_cons_succ]
             refine wpAnyH_take (i := 17) (oi := sor17) (v := ?_) rfl (by as_aux_lemma => kernel_rfl) (by as_aux_lemma => kernel_rfl) (by as_aux_lemma => kernel_rfl) (fun _ _ _ h => h) (Or.inl ⟨by rfl, ?_⟩) (by assumption) ?_
             rotate_left
             · unfold sor17; intro w hSw; (try dsimp only at hSw); go_simp; try (with_reducible rfl)
             try simp only [sor17, Act.put, List.setIfInBounds_toArray, List.set_cons_zero, List.set_cons_succ]
             refine wpAnyH_done (by kernel_rfl) ?_ _
             go_wp2_with fail
             go_meet
             refine ⟨rfl, ?_⟩
             repeat (first | exact Below.refl _ _ | refine below_drw ?_ | refine below_to ?_ (by assumption))
          | true =>
            have hcv := HCL.out (HCM.out hH)
            have hgt : decide (0 < cv) = false := decide_eq_false (by omega)
            rw [hH] at HHS
            clear hH
            refine wp_region_held_drew (S := (fun w' => w'.cell? ⟨bp, 0, none⟩ = some (.slice ap p cp) ∧ w'.cell? ⟨bt, 0, none⟩ = some (.int .i64 N) ∧ w'.cell? ⟨bt, 1, none⟩ = some (.int .i64 D) ∧ w'.cell? ⟨bs, 0, none⟩ = some (.int .i64 SX) ∧ w'.cell? ⟨bs, 1, none⟩ = some (.int .i64 SY) ∧ w'.cell? ⟨bs, 2, none⟩ = some (.int .i64 1))) (by kernel_rfl) ?_ (fun hHeld => ?_)
            · (refine keep6 BP_47 BT_48 BS0 ?_; repeat (first | exact Below.refl _ _ | refine below_drw ?_ | refine below_to ?_ (by assumption)))
            refine wpAnyH_take (i := 0) (oi := sor0) (v := ?_) rfl (by as_aux_lemma => kernel_rfl) (by as_aux_lemma => kernel_rfl) (by as_aux_lemma => kernel_rfl) (fun _ _ _ h => h) (Or.inl ⟨by rfl, ?_⟩) (by assumption) ?_
            rotate_left
            · unfold sor0; intro w hSw; (try dsimp only at hSw); go_simp; try (with_reducible rfl)
            try simp only [sor0, Act.put, List.setIfInBounds_toArray, List.set_cons_zero, List.set_cons_succ]
            refine wpAnyH_take (i := 1) (oi := sor1) (v := ?_) rfl (by as_aux_lemma => kernel_rfl) (by as_aux_lemma => kernel_rfl) (by as_aux_lemma => kernel_rfl) (fun _ _ _ h => h) (Or.inl ⟨by rfl, ?_⟩) (by assumption) ?_
            rotate_left
            · unfold sor1; intro w hSw; (try dsimp only at hSw); go_simp; try (with_reducible rfl)
            try simp only [sor1, Act.put, List.setIfInBounds_toArray, List.set_cons_zero, List.set_cons_succ]
            refine wpAnyH_ready (rs := [2]) (by as_aux_lemma => kernel_rfl) (by simp) ?_
            refine AllReadyH.cons (o := sor2) rfl (fun K hK => ?_) AllReadyH.nil
            unfold sor2
            go_simp
            (go_at_call 13; (with_reducible refine (HHS.out _ ?_).mono ?_); (focus ((refine Hps_46.out.below ?_); repeat (first | exact Below.refl _ _ | refine below_drw ?_ | refine below_to ?_ (by assumption)))); rintro e vv0 ⟨rfl, bw0⟩)
            try go_wp2_with fail
            refine hK.out _ _ ?_ (fun hHeld2 => ?_)
            · (refine keep6 BP_47 BT_48 BS0 ?_; repeat (first | exact Below.refl _ _ | refine below_drw ?_ | refine below_to ?_ (by assumption)))
            clear hK K hHeld
            have hHeld := hHeld2
            clear hHeld2
            try simp only [sor2, Act.put, List.setIfInBounds_toArray, List.set_cons_zero, List.set_cons_succ]
            as_aux_lemma =>
             refine wpAnyH_take (i := 3) (oi := sor3) (v := ?_) rfl (by as_aux_lemma => kernel_rfl) (by as_aux_lemma => kernel_rfl) (by as_aux_lemma => kernel_rfl) (fun _ _ _ h => h) (Or.inl ⟨by rfl, ?_⟩) (by assumption) ?_
             rotate_left
             · unfold sor3; intro w hSw; (try dsimp only at hSw); go_simp; try (with_reducible rfl)
             try simp only [sor3, Act.put, List.setIfInBounds_toArray, List.set_cons_zero, List.set_cons_succ]
             refine wpAnyH_take (i := 4) (oi := sor4) (v := ?_) rfl (by as_aux_lemma => kernel_rfl) (by as_aux_lemma => kernel_rfl) (by as_aux_lemma => kernel_rfl) (fun _ _ _ h => h) (Or.inl ⟨by rfl, ?_⟩) (by assumption) ?_
             rotate_left
             · unfold sor4; intro w hSw; (try dsimp only at hSw); go_simp; try (with_reducible rfl)
             try simp only [sor4, Act.put, List.setIfInBounds_toArray, List.set_cons_zero, List.set_cons_succ]
             refine wpAnyH_take (i := 5) (oi := sor5) (v := ?_) rfl (by as_aux_lemma => kernel_rfl) (by as_aux_lemma => kernel_rfl) (by as_aux_lemma => kernel_rfl) (fun _ _ _ h => h) (Or.inl ⟨by rfl, ?_⟩) (by assumption) ?_
             rotate_left
             · unfold sor5; intro w hSw; (try dsimp only at hSw); go_simp; try (with_reducible rfl)
             try simp only [sor5, Act.put, List.setIfInBounds_toArray, List.set_cons_zero, List.set_cons_succ]
             refine wpAnyH_take (i := 6) (oi := sor6) (v := ?_) rfl (by as_aux_lemma => kernel_rfl) (by as_aux_lemma => kernel_rfl) (by as_aux_lemma => kernel_rfl) (fun _ _ _ h => h) (Or.inl ⟨by rfl, ?_⟩) (by assumption) ?_
             rotate_left
             · unfold sor6; intro w hSw; (try dsimp only at hSw); go_simp; try (with_reducible rfl)
             try simp only [sor6, Act.put, List.setIfInBounds_toArray, List.set_cons_zero, List.set_cons_succ]
             refine wpAnyH_take (i := 7) (oi := sor7) (v := ?_) rfl (by as_aux_lemma => kernel_rfl) (by as_aux_lemma => kernel_rfl) (by as_aux_lemma => kernel_rfl) (fun _ _ _ h => h) (Or.inl ⟨by rfl, ?_⟩) (by assumption) ?_
             rotate_left
             · unfold sor7; intro w hSw; (try dsimp only at hSw); go_simp; try (with_reducible rfl)
             try simp only [sor7, Act.put, List.setIfInBounds_toArray, List.set_cons_zero, List.set_cons_succ]
             refine wpAnyH_take (i := 8) (oi := sor8) (v := ?_) rfl (by as_aux_lemma => kernel_rfl) (by as_aux_lemma => kernel_rfl) (by as_aux_lemma => kernel_rfl) (fun _ _ _ h => h) (Or.inl ⟨by rfl, ?_⟩) (by assumption) ?_
             rotate_left
             · unfold sor8; intro w hSw; (try dsimp only at hSw); go_simp; try (with_reducible rfl)
             try simp only [sor8, Act.put, List.setIfInBounds_toArray, List.set_cons_zero, List.set_cons_succ]
             refine wpAnyH_take (i := 9) (oi := sor9) (v := ?_) rfl (by as_aux_lemma => kernel_rfl) (by as_aux_lemma => kernel_rfl) (by as_aux_lemma => kernel_rfl) (fun _ _ _ h => h) (Or.inl ⟨by rfl, ?_⟩) (by assumption) ?_
             rotate_left
             · unfold sor9; intro w hSw; (try dsimp only at hSw); go_simp; try (with_reducible rfl)
             try simp only [sor9, Act.put, List.setIfInBounds_toArray, List.set_cons_zero, List.set_cons_succ]
             refine wpAnyH_take (i := 10) (oi := sor10) (v := ?_) rfl (by as_aux_lemma => kernel_rfl) (by as_aux_lemma => kernel_rfl) (by as_aux_lemma => kernel_rfl) (fun _ _ _ h => h) (Or.inl ⟨by rfl, ?_⟩) (by assumption) ?_
             rotate_left
             · unfold sor10; intro w hSw; (try dsimp only at hSw); go_simp; try (with_reducible rfl)
             try simp only [sor10, Act.put, List.setIfInBounds_toArray, List.set_cons_zero, List.set_cons_succ]
             refine wpAnyH_take (i := 11) (oi := sor11) (v := ?_) rfl (by as_aux_lemma => kernel_rfl) (by as_aux_lemma => kernel_rfl) (by as_aux_lemma => kernel_rfl) (fun _ _ _ h => h) (Or.inl ⟨by rfl, ?_⟩) (by assumption) ?_
             rotate_left
             · unfold sor11; intro w hSw; (try dsimp only at hSw); go_simp; try (with_reducible rfl)
             try simp only [sor11, Act.put, List.setIfInBounds_toArray, List.set_cons_zero, List.set_cons_succ]
             refine wpAnyH_take (i := 12) (oi := sor12) (v := ?_) rfl (by as_aux_lemma => kernel_rfl) (by as_aux_lemma => kernel_rfl) (by as_aux_lemma => kernel_rfl) (fun _ _ _ h => h) (Or.inl ⟨by rfl, ?_⟩) (by assumption) ?_
             rotate_left
             · unfold sor12; intro w hSw; (try dsimp only at hSw); go_simp; try (with_reducible rfl)
             try simp only [sor12, Act.put, List.setIfInBounds_toArray, List.set_cons_zero, List.set_cons_succ]
             refine wpAnyH_take (i := 14) (oi := sor14) (v := ?_) rfl (by as_aux_lemma => kernel_rfl) (by as_aux_lemma => kernel_rfl) (by as_aux_lemma => kernel_rfl) (fun _ _ _ h => h) (Or.inl ⟨by rfl, ?_⟩) (by assumption) ?_
             rotate_left
             · unfold sor14; intro w hSw; (try dsimp only at hSw); go_simp; try (with_reducible rfl)
             try simp only [sor14, Act.put, List.setIfInBounds_toArray, List.set_cons_zero, List.set_cons_succ]
             refine wpAnyH_ready (rs := [13]) (by as_aux_lemma => kernel_rfl) (by simp) ?_
             refine AllReadyH.cons (o := sor13) rfl (fun K hK => ?_) AllReadyH.nil
             unfold sor13
             go_simp
             (go_at_call 29; (with_reducible refine (HRQ.out _).mono ?_); rintro e vv1 ⟨rfl, bw1⟩)
             try go_wp2_with fail
             refine hK.out _ _ ?_ (fun hHeld2 => ?_)
             · (refine keep6 BP_47 BT_48 BS0 ?_; repeat (first | exact Below.refl _ _ | refine below_drw ?_ | refine below_to ?_ (by assumption)))
             clear hK K hHeld
             have hHeld := hHeld2
             clear hHeld2
             try simp only [sor13, Act.put, List.setIfInBounds_toArray, List.set_cons_zero, List.set_cons_succ]
             as_aux_lemma =>
              refine wpAnyH_ready (rs := [15]) (by as_aux_lemma => kernel_rfl) (by simp) ?_
              refine AllReadyH.cons (o := sor15) rfl (fun K hK => ?_) AllReadyH.nil
              unfold sor15
              go_simp
              (go_at_call 30; (with_reducible refine (HCP.out _).mono ?_); rintro e vv2 ⟨rfl, bw2⟩)
              try go_wp2_with fail
              refine hK.out _ _ ?_ (fun hHeld2 => ?_)
              · (refine keep6 BP_47 BT_48 BS0 ?_; repeat (first | exact Below.refl _ _ | refine below_drw ?_ | refine below_to ?_ (by assumption)))
              clear hK K hHeld
              have hHeld := hHeld2
              clear hHeld2
              try simp only [sor15, Act.put, List.setIfInBounds_toArray, List.set_cons_zero, List.set_cons_succ]
              as_aux_lemma =>
               refine wpAnyH_take (i := 16) (oi := sor16) (v := ?_) rfl (by as_aux_lemma => kernel_rfl) (by as_aux_lemma => kernel_rfl) (by as_aux_lemma => kernel_rfl) (fun _ _ _ h => h) (Or.inl ⟨by rfl, ?_⟩) (by assumption) ?_
               rotate_left
               · unfold sor16; intro w hSw; (try dsimp only at hSw); go_simp; try (with_reducible rfl)
               try simp only [sor16, Act.put, List.setIfInBounds_toArray, List.set_cons_zero, List.set_cons_succ]
               refine wpAnyH_take (i := 17) (oi := sor17) (v := ?_) rfl (by as_aux_lemma => kernel_rfl) (by as_aux_lemma => kernel_rfl) (by as_aux_lemma => kernel_rfl) (fun _ _ _ h => h) (Or.inl ⟨by rfl, ?_⟩) (by assumption) ?_
               rotate_left
               · unfold sor17; intro w hSw; (try dsimp only at hSw); go_simp; try (with_reducible rfl)
               try simp only [sor17, Act.put, List.setIfInBounds_toArray, List.set_cons_zero, List.set_cons_succ]
               refine wpAnyH_done (by kernel_rfl) ?_ _
               go_wp2_with fail
               go_meet
               refine ⟨rfl, ?_⟩
               repeat (first | exact Below.refl _ _ | refine below_drw ?_ | refine below_to ?_ (by assumption))
        case rest =>
          obtain ⟨rfl, hb6⟩ := hcut
          rename World => wd
          have Hps_51 := Lib.hid (Hps_46.out.below hb6)
          have BP_52 := BP_47.to hb6
          have BT_53 := BT_48.to hb6
          have b_54 := below_to b_49 hb6
          have b4_55 := below_to b4_50 hb6
          have BS_56 := BS0.to hb6
          clear Hps_46 BP_47 BT_48 b_49 b4_50 BS0
          go_wp2
          go_roundw
          case rel => exact ⟨k + 1, by omega, by go_num, b_54, b4_55⟩
          case measure => simp [intOf]; omega
      · have h12 : k = 12 := by omega
        subst h12
        clear hk12
        go_wp2
        go_ret
        exact ⟨rfl, hbw⟩
end Go.Proofs.Ytfndkapjclhflaa
