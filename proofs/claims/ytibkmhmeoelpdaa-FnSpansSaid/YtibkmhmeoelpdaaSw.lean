/- The walk of the law FnSpans. -/
import Derived.Test.YtibkmhmeoelpdaaRs
import Derived.Test.YtibkmhmeoelpdaaTc
namespace Go.Proofs.Ytibkmhmeoelpdaa
open Go.RowKit
open Geo (H3)

theorem keep16 {V X : World} {Ba Bc Bd Be Bf : Nat} {a0 a1 a2 a3 c0 c1 c2 c3 d0 d1 e0 e1 e2 e3 f0 f1 : Value} {Ta Tc Td Te Tf : TypeId} (ha : Blk V Ba #[a0, a1, a2, a3] Ta) (hc : Blk V Bc #[c0, c1, c2, c3] Tc) (hd : Blk V Bd #[d0, d1] Td) (he : Blk V Be #[e0, e1, e2, e3] Te) (hf : Blk V Bf #[f0, f1] Tf) (hBel : Below V.heap.size V X) :
    X.cell? ⟨Ba, 0, none⟩ = some a0 ∧ X.cell? ⟨Ba, 1, none⟩ = some a1 ∧ X.cell? ⟨Ba, 2, none⟩ = some a2 ∧ X.cell? ⟨Ba, 3, none⟩ = some a3 ∧ X.cell? ⟨Bc, 0, none⟩ = some c0 ∧ X.cell? ⟨Bc, 1, none⟩ = some c1 ∧ X.cell? ⟨Bc, 2, none⟩ = some c2 ∧ X.cell? ⟨Bc, 3, none⟩ = some c3 ∧ X.cell? ⟨Bd, 0, none⟩ = some d0 ∧ X.cell? ⟨Bd, 1, none⟩ = some d1 ∧ X.cell? ⟨Be, 0, none⟩ = some e0 ∧ X.cell? ⟨Be, 1, none⟩ = some e1 ∧ X.cell? ⟨Be, 2, none⟩ = some e2 ∧ X.cell? ⟨Be, 3, none⟩ = some e3 ∧ X.cell? ⟨Bf, 0, none⟩ = some f0 ∧ X.cell? ⟨Bf, 1, none⟩ = some f1 := ⟨(ha.to hBel).cell0 rfl, (ha.to hBel).cell0 rfl, (ha.to hBel).cell0 rfl, (ha.to hBel).cell0 rfl, (hc.to hBel).cell0 rfl, (hc.to hBel).cell0 rfl, (hc.to hBel).cell0 rfl, (hc.to hBel).cell0 rfl, (hd.to hBel).cell0 rfl, (hd.to hBel).cell0 rfl, (he.to hBel).cell0 rfl, (he.to hBel).cell0 rfl, (he.to hBel).cell0 rfl, (he.to hBel).cell0 rfl, (hf.to hBel).cell0 rfl, (hf.to hBel).cell0 rfl⟩
theorem keep42 {V X : World} {Ba Bc : Nat} {a0 a1 a2 a3 c0 c1 : Value} {Ta Tc : TypeId} (ha : Blk V Ba #[a0, a1, a2, a3] Ta) (hc : Blk V Bc #[c0, c1] Tc) (hBel : Below V.heap.size V X) :
    X.cell? ⟨Ba, 0, none⟩ = some a0 ∧ X.cell? ⟨Ba, 1, none⟩ = some a1 ∧ X.cell? ⟨Ba, 2, none⟩ = some a2 ∧ X.cell? ⟨Ba, 3, none⟩ = some a3 ∧ X.cell? ⟨Bc, 0, none⟩ = some c0 ∧ X.cell? ⟨Bc, 1, none⟩ = some c1 := ⟨(ha.to hBel).cell0 rfl, (ha.to hBel).cell0 rfl, (ha.to hBel).cell0 rfl, (ha.to hBel).cell0 rfl, (hc.to hBel).cell0 rfl, (hc.to hBel).cell0 rfl⟩
theorem rem_100 {x : Int} (_h : 0 ≤ x ∧ x ≤ 65535) : (0 ≤ x % 100 ∧ x % 100 ≤ 99) := by omega
theorem wrap_50 {y : Int} (h : 0 ≤ y ∧ y ≤ 99) : IntKind.i64.wrap (y - 50) = y - 50 := IntWalk.i64_in _ (by omega)
theorem ok_64' {a b : Int} (h : okR a b = true) : I64 a ∧ I64 b := by
  obtain ⟨h1, h2, h3, h4, _⟩ := (okR_iff _ _).1 h
  exact ⟨⟨by omega, by omega⟩, ⟨by omega, by omega⟩⟩
def spn9_0 : Oper :=
  { dst := some 33, op := Go.Op.load 29 (Go.Operand.tmp 3), type := 29, pos := "laws.go:440", after := #[], guard := none }
def spn9_1 : Oper :=
  { dst := some 34, op := Go.Op.call { callee := Go.Callee.value (Go.Operand.func 12), args := #[Go.Operand.tmp 33], argTypes := #[29] }, type := 4, pos := "laws.go:440", after := #[{ on := 0, ground := Go.Ground.data }], guard := none }
def spn9_2 : Oper :=
  { dst := some 35, op := Go.Op.unOp Go.UnOp.not 4 (Go.Operand.tmp 34), type := 4, pos := "laws.go:440", after := #[{ on := 1, ground := Go.Ground.data }], guard := none }
def spn9_3 : Oper :=
  { dst := some 36, op := Go.Op.move (Go.Operand.tmp 35), type := 4, pos := "laws.go:440", after := #[{ on := 2, ground := Go.Ground.data }, { on := 1, ground := Go.Ground.chain }], guard := none }
def spn9_4 : Oper :=
  { dst := some 37, op := Go.Op.load 29 (Go.Operand.tmp 4), type := 29, pos := "laws.go:440", after := #[{ on := 3, ground := Go.Ground.guard }], guard := some (3, false) }
def spn9_5 : Oper :=
  { dst := some 38, op := Go.Op.call { callee := Go.Callee.value (Go.Operand.func 12), args := #[Go.Operand.tmp 37], argTypes := #[29] }, type := 4, pos := "laws.go:440", after := #[{ on := 4, ground := Go.Ground.data }, { on := 3, ground := Go.Ground.chain }, { on := 3, ground := Go.Ground.guard }], guard := some (3, false) }
def spn9_6 : Oper :=
  { dst := some 39, op := Go.Op.unOp Go.UnOp.not 4 (Go.Operand.tmp 38), type := 4, pos := "laws.go:440", after := #[{ on := 5, ground := Go.Ground.data }, { on := 3, ground := Go.Ground.guard }], guard := some (3, false) }
def spn9_7 : Oper :=
  { dst := some 40, op := Go.Op.pick (Go.Operand.tmp 36) (Go.Operand.const (Go.Value.bool true)) (Go.Operand.tmp 39), type := 4, pos := "laws.go:440", after := #[{ on := 3, ground := Go.Ground.data }, { on := 6, ground := Go.Ground.data }], guard := none }
def spn9_8 : Oper :=
  { dst := some 41, op := Go.Op.move (Go.Operand.tmp 40), type := 4, pos := "laws.go:440", after := #[{ on := 7, ground := Go.Ground.data }, { on := 5, ground := Go.Ground.chain }], guard := none }
def spn9_9 : Oper :=
  { dst := some 42, op := Go.Op.load 29 (Go.Operand.tmp 3), type := 29, pos := "laws.go:440", after := #[{ on := 8, ground := Go.Ground.guard }], guard := some (8, false) }
def spn9_10 : Oper :=
  { dst := some 43, op := Go.Op.load 27 (Go.Operand.tmp 9), type := 27, pos := "laws.go:440", after := #[{ on := 8, ground := Go.Ground.guard }], guard := some (8, false) }
def spn9_11 : Oper :=
  { dst := some 44, op := Go.Op.call { callee := Go.Callee.value (Go.Operand.func 15), args := #[Go.Operand.tmp 42, Go.Operand.tmp 43], argTypes := #[29, 27] }, type := 4, pos := "laws.go:440", after := #[{ on := 9, ground := Go.Ground.data }, { on := 10, ground := Go.Ground.data }, { on := 8, ground := Go.Ground.chain }, { on := 8, ground := Go.Ground.guard }], guard := some (8, false) }
def spn9_12 : Oper :=
  { dst := some 45, op := Go.Op.unOp Go.UnOp.not 4 (Go.Operand.tmp 44), type := 4, pos := "laws.go:440", after := #[{ on := 11, ground := Go.Ground.data }, { on := 8, ground := Go.Ground.guard }], guard := some (8, false) }
def spn9_13 : Oper :=
  { dst := some 46, op := Go.Op.pick (Go.Operand.tmp 41) (Go.Operand.const (Go.Value.bool true)) (Go.Operand.tmp 45), type := 4, pos := "laws.go:440", after := #[{ on := 8, ground := Go.Ground.data }, { on := 12, ground := Go.Ground.data }], guard := none }
def spn9_14 : Oper :=
  { dst := some 47, op := Go.Op.move (Go.Operand.tmp 46), type := 4, pos := "laws.go:440", after := #[{ on := 13, ground := Go.Ground.data }, { on := 11, ground := Go.Ground.chain }], guard := none }
def spn9_15 : Oper :=
  { dst := some 48, op := Go.Op.move (Go.Operand.tmp 8), type := 4, pos := "laws.go:440", after := #[{ on := 14, ground := Go.Ground.guard }], guard := some (14, false) }
def spn9_16 : Oper :=
  { dst := some 49, op := Go.Op.move (Go.Operand.tmp 48), type := 4, pos := "laws.go:440", after := #[{ on := 15, ground := Go.Ground.data }, { on := 14, ground := Go.Ground.chain }, { on := 14, ground := Go.Ground.guard }], guard := some (14, false) }
def spn9_17 : Oper :=
  { dst := some 50, op := Go.Op.load 29 (Go.Operand.tmp 7), type := 29, pos := "laws.go:440", after := #[{ on := 16, ground := Go.Ground.guard }], guard := some (16, true) }
def spn9_18 : Oper :=
  { dst := some 51, op := Go.Op.load 27 (Go.Operand.tmp 5), type := 27, pos := "laws.go:440", after := #[{ on := 16, ground := Go.Ground.guard }], guard := some (16, true) }
def spn9_19 : Oper :=
  { dst := some 52, op := Go.Op.call { callee := Go.Callee.value (Go.Operand.func 15), args := #[Go.Operand.tmp 50, Go.Operand.tmp 51], argTypes := #[29, 27] }, type := 4, pos := "laws.go:440", after := #[{ on := 17, ground := Go.Ground.data }, { on := 18, ground := Go.Ground.data }, { on := 16, ground := Go.Ground.chain }, { on := 16, ground := Go.Ground.guard }], guard := some (16, true) }
def spn9_20 : Oper :=
  { dst := some 53, op := Go.Op.load 29 (Go.Operand.tmp 3), type := 29, pos := "laws.go:440", after := #[{ on := 16, ground := Go.Ground.guard }], guard := some (16, true) }
def spn9_21 : Oper :=
  { dst := some 54, op := Go.Op.load 27 (Go.Operand.tmp 5), type := 27, pos := "laws.go:440", after := #[{ on := 16, ground := Go.Ground.guard }], guard := some (16, true) }
def spn9_22 : Oper :=
  { dst := some 55, op := Go.Op.call { callee := Go.Callee.value (Go.Operand.func 15), args := #[Go.Operand.tmp 53, Go.Operand.tmp 54], argTypes := #[29, 27] }, type := 4, pos := "laws.go:440", after := #[{ on := 20, ground := Go.Ground.data }, { on := 21, ground := Go.Ground.data }, { on := 19, ground := Go.Ground.chain }, { on := 16, ground := Go.Ground.guard }], guard := some (16, true) }
def spn9_23 : Oper :=
  { dst := some 56, op := Go.Op.move (Go.Operand.tmp 55), type := 4, pos := "laws.go:440", after := #[{ on := 22, ground := Go.Ground.data }, { on := 22, ground := Go.Ground.chain }, { on := 16, ground := Go.Ground.guard }], guard := some (16, true) }
def spn9_24 : Oper :=
  { dst := some 57, op := Go.Op.load 29 (Go.Operand.tmp 4), type := 29, pos := "laws.go:440", after := #[{ on := 23, ground := Go.Ground.guard }], guard := some (23, true) }
def spn9_25 : Oper :=
  { dst := some 58, op := Go.Op.load 27 (Go.Operand.tmp 5), type := 27, pos := "laws.go:440", after := #[{ on := 23, ground := Go.Ground.guard }], guard := some (23, true) }
def spn9_26 : Oper :=
  { dst := some 59, op := Go.Op.call { callee := Go.Callee.value (Go.Operand.func 15), args := #[Go.Operand.tmp 57, Go.Operand.tmp 58], argTypes := #[29, 27] }, type := 4, pos := "laws.go:440", after := #[{ on := 24, ground := Go.Ground.data }, { on := 25, ground := Go.Ground.data }, { on := 23, ground := Go.Ground.chain }, { on := 23, ground := Go.Ground.guard }], guard := some (23, true) }
def spn9_27 : Oper :=
  { dst := some 60, op := Go.Op.pick (Go.Operand.tmp 56) (Go.Operand.tmp 59) (Go.Operand.const (Go.Value.bool false)), type := 4, pos := "laws.go:440", after := #[{ on := 23, ground := Go.Ground.data }, { on := 26, ground := Go.Ground.data }, { on := 16, ground := Go.Ground.guard }], guard := some (16, true) }
def spn9_28 : Oper :=
  { dst := some 61, op := Go.Op.binOp Go.BinOp.neq 4 (Go.Operand.tmp 52) (Go.Operand.tmp 60) 4, type := 4, pos := "laws.go:440", after := #[{ on := 19, ground := Go.Ground.data }, { on := 27, ground := Go.Ground.data }, { on := 16, ground := Go.Ground.guard }], guard := some (16, true) }
def spn9_29 : Oper :=
  { dst := some 62, op := Go.Op.pick (Go.Operand.tmp 49) (Go.Operand.tmp 61) (Go.Operand.const (Go.Value.bool false)), type := 4, pos := "laws.go:440", after := #[{ on := 16, ground := Go.Ground.data }, { on := 28, ground := Go.Ground.data }, { on := 14, ground := Go.Ground.guard }], guard := some (14, false) }
def spn9_30 : Oper :=
  { dst := some 63, op := Go.Op.pick (Go.Operand.tmp 47) (Go.Operand.const (Go.Value.bool true)) (Go.Operand.tmp 62), type := 4, pos := "laws.go:440", after := #[{ on := 14, ground := Go.Ground.data }, { on := 29, ground := Go.Ground.data }], guard := none }
def spn9_31 : Oper :=
  { dst := some 64, op := Go.Op.move (Go.Operand.tmp 63), type := 4, pos := "laws.go:440", after := #[{ on := 30, ground := Go.Ground.data }, { on := 26, ground := Go.Ground.chain }], guard := none }
def spn9_32 : Oper :=
  { dst := some 65, op := Go.Op.move (Go.Operand.tmp 8), type := 4, pos := "laws.go:440", after := #[{ on := 31, ground := Go.Ground.guard }], guard := some (31, false) }
def spn9_33 : Oper :=
  { dst := some 66, op := Go.Op.unOp Go.UnOp.not 4 (Go.Operand.tmp 65), type := 4, pos := "laws.go:440", after := #[{ on := 32, ground := Go.Ground.data }, { on := 31, ground := Go.Ground.guard }], guard := some (31, false) }
def spn9_34 : Oper :=
  { dst := some 67, op := Go.Op.move (Go.Operand.tmp 66), type := 4, pos := "laws.go:440", after := #[{ on := 33, ground := Go.Ground.data }, { on := 31, ground := Go.Ground.chain }, { on := 31, ground := Go.Ground.guard }], guard := some (31, false) }
def spn9_35 : Oper :=
  { dst := some 68, op := Go.Op.load 29 (Go.Operand.tmp 3), type := 29, pos := "laws.go:440", after := #[{ on := 34, ground := Go.Ground.guard }], guard := some (34, true) }
def spn9_36 : Oper :=
  { dst := some 69, op := Go.Op.load 27 (Go.Operand.tmp 5), type := 27, pos := "laws.go:440", after := #[{ on := 34, ground := Go.Ground.guard }], guard := some (34, true) }
def spn9_37 : Oper :=
  { dst := some 70, op := Go.Op.call { callee := Go.Callee.value (Go.Operand.func 15), args := #[Go.Operand.tmp 68, Go.Operand.tmp 69], argTypes := #[29, 27] }, type := 4, pos := "laws.go:440", after := #[{ on := 35, ground := Go.Ground.data }, { on := 36, ground := Go.Ground.data }, { on := 34, ground := Go.Ground.chain }, { on := 34, ground := Go.Ground.guard }], guard := some (34, true) }
def spn9_38 : Oper :=
  { dst := some 71, op := Go.Op.pick (Go.Operand.tmp 67) (Go.Operand.tmp 70) (Go.Operand.const (Go.Value.bool false)), type := 4, pos := "laws.go:440", after := #[{ on := 34, ground := Go.Ground.data }, { on := 37, ground := Go.Ground.data }, { on := 31, ground := Go.Ground.guard }], guard := some (31, false) }
def spn9_39 : Oper :=
  { dst := some 72, op := Go.Op.move (Go.Operand.tmp 71), type := 4, pos := "laws.go:440", after := #[{ on := 38, ground := Go.Ground.data }, { on := 37, ground := Go.Ground.chain }, { on := 31, ground := Go.Ground.guard }], guard := some (31, false) }
def spn9_40 : Oper :=
  { dst := some 73, op := Go.Op.load 29 (Go.Operand.tmp 4), type := 29, pos := "laws.go:440", after := #[{ on := 39, ground := Go.Ground.guard }], guard := some (39, true) }
def spn9_41 : Oper :=
  { dst := some 74, op := Go.Op.load 27 (Go.Operand.tmp 5), type := 27, pos := "laws.go:440", after := #[{ on := 39, ground := Go.Ground.guard }], guard := some (39, true) }
def spn9_42 : Oper :=
  { dst := some 75, op := Go.Op.call { callee := Go.Callee.value (Go.Operand.func 15), args := #[Go.Operand.tmp 73, Go.Operand.tmp 74], argTypes := #[29, 27] }, type := 4, pos := "laws.go:440", after := #[{ on := 40, ground := Go.Ground.data }, { on := 41, ground := Go.Ground.data }, { on := 39, ground := Go.Ground.chain }, { on := 39, ground := Go.Ground.guard }], guard := some (39, true) }
def spn9_43 : Oper :=
  { dst := some 76, op := Go.Op.pick (Go.Operand.tmp 72) (Go.Operand.tmp 75) (Go.Operand.const (Go.Value.bool false)), type := 4, pos := "laws.go:440", after := #[{ on := 39, ground := Go.Ground.data }, { on := 42, ground := Go.Ground.data }, { on := 31, ground := Go.Ground.guard }], guard := some (31, false) }
def spn9_44 : Oper :=
  { dst := some 77, op := Go.Op.pick (Go.Operand.tmp 64) (Go.Operand.const (Go.Value.bool true)) (Go.Operand.tmp 76), type := 4, pos := "laws.go:440", after := #[{ on := 31, ground := Go.Ground.data }, { on := 43, ground := Go.Ground.data }], guard := none }
def spn14_0 : Oper :=
  { dst := some 82, op := Go.Op.load 29 (Go.Operand.tmp 3), type := 29, pos := "laws.go:444", after := #[], guard := none }
def spn14_1 : Oper :=
  { dst := some 83, op := Go.Op.move (Go.Operand.tmp 10), type := 3, pos := "laws.go:444", after := #[], guard := none }
def spn14_2 : Oper :=
  { dst := some 84, op := Go.Op.call { callee := Go.Callee.value (Go.Operand.func 33), args := #[Go.Operand.tmp 83, Go.Operand.const (Go.Value.int Go.IntKind.i64 1)], argTypes := #[3, 3] }, type := 27, pos := "laws.go:444", after := #[{ on := 1, ground := Go.Ground.data }], guard := none }
def spn14_3 : Oper :=
  { dst := some 85, op := Go.Op.call { callee := Go.Callee.value (Go.Operand.func 15), args := #[Go.Operand.tmp 82, Go.Operand.tmp 84], argTypes := #[29, 27] }, type := 4, pos := "laws.go:444", after := #[{ on := 0, ground := Go.Ground.data }, { on := 2, ground := Go.Ground.data }, { on := 2, ground := Go.Ground.chain }], guard := none }
def spn14_4 : Oper :=
  { dst := some 86, op := Go.Op.move (Go.Operand.tmp 85), type := 4, pos := "laws.go:444", after := #[{ on := 3, ground := Go.Ground.data }, { on := 3, ground := Go.Ground.chain }], guard := none }
def spn14_5 : Oper :=
  { dst := some 87, op := Go.Op.fieldAddr 27 (Go.Operand.tmp 9) 1, type := 0, pos := "laws.go:444", after := #[{ on := 4, ground := Go.Ground.guard }], guard := some (4, true) }
def spn14_6 : Oper :=
  { dst := some 88, op := Go.Op.load 3 (Go.Operand.tmp 87), type := 3, pos := "laws.go:444", after := #[{ on := 5, ground := Go.Ground.data }, { on := 4, ground := Go.Ground.guard }], guard := some (4, true) }
def spn14_7 : Oper :=
  { dst := some 89, op := Go.Op.binOp Go.BinOp.neq 3 (Go.Operand.tmp 88) (Go.Operand.const (Go.Value.int Go.IntKind.i64 1)) 3, type := 4, pos := "laws.go:444", after := #[{ on := 6, ground := Go.Ground.data }, { on := 4, ground := Go.Ground.guard }], guard := some (4, true) }
def spn14_8 : Oper :=
  { dst := some 90, op := Go.Op.move (Go.Operand.tmp 89), type := 4, pos := "laws.go:444", after := #[{ on := 7, ground := Go.Ground.data }, { on := 4, ground := Go.Ground.chain }, { on := 4, ground := Go.Ground.guard }], guard := some (4, true) }
def spn14_9 : Oper :=
  { dst := some 91, op := Go.Op.move (Go.Operand.tmp 10), type := 3, pos := "laws.go:444", after := #[{ on := 8, ground := Go.Ground.guard }], guard := some (8, false) }
def spn14_10 : Oper :=
  { dst := some 92, op := Go.Op.move (Go.Operand.tmp 6), type := 3, pos := "laws.go:444", after := #[{ on := 8, ground := Go.Ground.guard }], guard := some (8, false) }
def spn14_11 : Oper :=
  { dst := some 93, op := Go.Op.binOp Go.BinOp.sub 3 (Go.Operand.tmp 91) (Go.Operand.tmp 92) 3, type := 3, pos := "laws.go:444", after := #[{ on := 9, ground := Go.Ground.data }, { on := 10, ground := Go.Ground.data }, { on := 8, ground := Go.Ground.guard }], guard := some (8, false) }
def spn14_12 : Oper :=
  { dst := some 94, op := Go.Op.move (Go.Operand.tmp 6), type := 3, pos := "laws.go:444", after := #[{ on := 8, ground := Go.Ground.guard }], guard := some (8, false) }
def spn14_13 : Oper :=
  { dst := some 95, op := Go.Op.move (Go.Operand.tmp 10), type := 3, pos := "laws.go:444", after := #[{ on := 8, ground := Go.Ground.guard }], guard := some (8, false) }
def spn14_14 : Oper :=
  { dst := some 96, op := Go.Op.binOp Go.BinOp.sub 3 (Go.Operand.tmp 94) (Go.Operand.tmp 95) 3, type := 3, pos := "laws.go:444", after := #[{ on := 12, ground := Go.Ground.data }, { on := 13, ground := Go.Ground.data }, { on := 8, ground := Go.Ground.guard }], guard := some (8, false) }
def spn14_15 : Oper :=
  { dst := some 97, op := Go.Op.call { callee := Go.Callee.builtin Go.Builtin.max, args := #[Go.Operand.tmp 93, Go.Operand.tmp 96], argTypes := #[3, 3] }, type := 3, pos := "laws.go:444", after := #[{ on := 11, ground := Go.Ground.data }, { on := 14, ground := Go.Ground.data }, { on := 8, ground := Go.Ground.guard }], guard := some (8, false) }
def spn14_16 : Oper :=
  { dst := some 98, op := Go.Op.fieldAddr 27 (Go.Operand.tmp 9) 0, type := 0, pos := "laws.go:444", after := #[{ on := 8, ground := Go.Ground.guard }], guard := some (8, false) }
def spn14_17 : Oper :=
  { dst := some 99, op := Go.Op.load 3 (Go.Operand.tmp 98), type := 3, pos := "laws.go:444", after := #[{ on := 16, ground := Go.Ground.data }, { on := 8, ground := Go.Ground.guard }], guard := some (8, false) }
def spn14_18 : Oper :=
  { dst := some 100, op := Go.Op.move (Go.Operand.tmp 6), type := 3, pos := "laws.go:444", after := #[{ on := 8, ground := Go.Ground.guard }], guard := some (8, false) }
def spn14_19 : Oper :=
  { dst := some 101, op := Go.Op.binOp Go.BinOp.sub 3 (Go.Operand.tmp 99) (Go.Operand.tmp 100) 3, type := 3, pos := "laws.go:444", after := #[{ on := 17, ground := Go.Ground.data }, { on := 18, ground := Go.Ground.data }, { on := 8, ground := Go.Ground.guard }], guard := some (8, false) }
def spn14_20 : Oper :=
  { dst := some 102, op := Go.Op.move (Go.Operand.tmp 6), type := 3, pos := "laws.go:444", after := #[{ on := 8, ground := Go.Ground.guard }], guard := some (8, false) }
def spn14_21 : Oper :=
  { dst := some 103, op := Go.Op.fieldAddr 27 (Go.Operand.tmp 9) 0, type := 0, pos := "laws.go:444", after := #[{ on := 8, ground := Go.Ground.guard }], guard := some (8, false) }
def spn14_22 : Oper :=
  { dst := some 104, op := Go.Op.load 3 (Go.Operand.tmp 103), type := 3, pos := "laws.go:444", after := #[{ on := 21, ground := Go.Ground.data }, { on := 8, ground := Go.Ground.guard }], guard := some (8, false) }
def spn14_23 : Oper :=
  { dst := some 105, op := Go.Op.binOp Go.BinOp.sub 3 (Go.Operand.tmp 102) (Go.Operand.tmp 104) 3, type := 3, pos := "laws.go:444", after := #[{ on := 20, ground := Go.Ground.data }, { on := 22, ground := Go.Ground.data }, { on := 8, ground := Go.Ground.guard }], guard := some (8, false) }
def spn14_24 : Oper :=
  { dst := some 106, op := Go.Op.call { callee := Go.Callee.builtin Go.Builtin.max, args := #[Go.Operand.tmp 101, Go.Operand.tmp 105], argTypes := #[3, 3] }, type := 3, pos := "laws.go:444", after := #[{ on := 19, ground := Go.Ground.data }, { on := 23, ground := Go.Ground.data }, { on := 8, ground := Go.Ground.guard }], guard := some (8, false) }
def spn14_25 : Oper :=
  { dst := some 107, op := Go.Op.binOp Go.BinOp.lss 3 (Go.Operand.tmp 97) (Go.Operand.tmp 106) 3, type := 4, pos := "laws.go:444", after := #[{ on := 15, ground := Go.Ground.data }, { on := 24, ground := Go.Ground.data }, { on := 8, ground := Go.Ground.guard }], guard := some (8, false) }
def spn14_26 : Oper :=
  { dst := some 108, op := Go.Op.pick (Go.Operand.tmp 90) (Go.Operand.const (Go.Value.bool true)) (Go.Operand.tmp 107), type := 4, pos := "laws.go:444", after := #[{ on := 8, ground := Go.Ground.data }, { on := 25, ground := Go.Ground.data }, { on := 4, ground := Go.Ground.guard }], guard := some (4, true) }
def spn14_27 : Oper :=
  { dst := some 109, op := Go.Op.pick (Go.Operand.tmp 86) (Go.Operand.tmp 108) (Go.Operand.const (Go.Value.bool false)), type := 4, pos := "laws.go:444", after := #[{ on := 4, ground := Go.Ground.data }, { on := 26, ground := Go.Ground.data }], guard := none }
set_option maxRecDepth 100000 in
set_option maxHeartbeats 4000000 in
theorem law_spans (a : Option Addr) (len cap : Nat) (w : World) (_hm : len ≤ maxLen) (hB : BytesAt w a len) :
    Calls Try.prog 9 #[.slice a len cap] w fun e w' => e = .returned (.bool true) ∧ Below w.heap.size w w' := by
  by_cases hle : (1048576 : Int) < (len : Int)
  · go_enter Try.func9, Try.ntmps9
    go_wp2
    go_ret
    exact ⟨rfl, Below.refl _ _⟩
  have HB := Lib.hid hB
  have hl : len ≤ 1048576 := by omega
  clear hB
  go_enter Try.func9, Try.ntmps9
  go_wp2_with fail
  refine (make_span w a len cap 1 (by omega) hl HB.out).mono ?_
  rintro e w1 ⟨a1, b1, c1, d1, hA, rfl, bl⟩
  have HA := Lib.hid hA
  have b0 := bl
  clear hA bl
  have bN := below_one w1 (.cells #[.int .i64 a1, .int .i64 b1, .int .i64 c1, .int .i64 d1] 29)
  have BA0 := blk_new w1 #[.int .i64 a1, .int .i64 b1, .int .i64 c1, .int .i64 d1] 29 rfl
  have b_1 := below_to b0 bN
  clear b0
  clear bN
  go_wp2_with fail
  generalize w1.alloc (.cells #[.int .i64 a1, .int .i64 b1, .int .i64 c1, .int .i64 d1] 29) = U1 at *
  obtain ⟨ab, hbk⟩ : ∃ b, w1.heap.size = b := ⟨_, rfl⟩
  rw [hbk] at BA0 ⊢
  clear hbk
  refine (make_span U1 a len cap 20 (by omega) hl (HB.out.below b_1)).mono ?_
  rintro e w2 ⟨a2, b2, c2, d2, hB, rfl, bl⟩
  have HBB := Lib.hid hB
  clear hB
  have b_2 := below_to b_1 bl
  have BA_3 := BA0.to bl
  clear b_1 BA0
  clear bl
  have bN := below_one w2 (.cells #[.int .i64 a2, .int .i64 b2, .int .i64 c2, .int .i64 d2] 29)
  have BB0 := blk_new w2 #[.int .i64 a2, .int .i64 b2, .int .i64 c2, .int .i64 d2] 29 rfl
  have b_4 := below_to b_2 bN
  have BA_5 := BA_3.to bN
  clear b_2 BA_3
  clear bN
  go_wp2_with fail
  generalize w2.alloc (.cells #[.int .i64 a2, .int .i64 b2, .int .i64 c2, .int .i64 d2] 29) = U2 at *
  obtain ⟨bb, hbk⟩ : ∃ b, w2.heap.size = b := ⟨_, rfl⟩
  rw [hbk] at BB0 ⊢
  clear hbk
  refine (make_ratio U2 a len cap 40 (by omega) hl (HB.out.below b_4)).mono ?_
  rintro e w3 ⟨uN, uD, hU, rfl, bl⟩
  have HU := Lib.hid hU
  clear hU
  have b_6 := below_to b_4 bl
  have BA_7 := BA_5.to bl
  have BB_8 := BB0.to bl
  clear b_4 BA_5 BB0
  clear bl
  have bN := below_one w3 (.cells #[.int .i64 uN, .int .i64 uD] 27)
  have BU0 := blk_new w3 #[.int .i64 uN, .int .i64 uD] 27 rfl
  have b_9 := below_to b_6 bN
  have BA_10 := BA_7.to bN
  have BB_11 := BB_8.to bN
  clear b_6 BA_7 BB_8
  clear bN
  go_wp2_with fail
  generalize w3.alloc (.cells #[.int .i64 uN, .int .i64 uD] 27) = U3 at *
  obtain ⟨ub, hbk⟩ : ∃ b, w3.heap.size = b := ⟨_, rfl⟩
  rw [hbk] at BU0 ⊢
  clear hbk
  have HN := make_num U3 a len cap 60 (by omega) hl (HB.out.below b_9)
  unfold Num at HN
  refine HN.mono ?_
  rintro e w4 ⟨x, hx, rfl, bl⟩
  clear HN
  have b_12 := below_to b_9 bl
  have BA_13 := BA_10.to bl
  have BB_14 := BB_11.to bl
  have BU_15 := BU0.to bl
  clear b_9 BA_10 BB_11 BU0
  clear bl
  have rx := rem_100 hx
  have wx := wrap_50 rx
  have p0 := BA_13.cell0 (i := 0) (v := .int .i64 a1) rfl
  have p1 := BA_13.cell0 (i := 1) (v := .int .i64 b1) rfl
  have p2 := BA_13.cell0 (i := 2) (v := .int .i64 c1) rfl
  have p3 := BA_13.cell0 (i := 3) (v := .int .i64 d1) rfl
  have q0 := BB_14.cell0 (i := 0) (v := .int .i64 a2) rfl
  have q1 := BB_14.cell0 (i := 1) (v := .int .i64 b2) rfl
  have q2 := BB_14.cell0 (i := 2) (v := .int .i64 c2) rfl
  have q3 := BB_14.cell0 (i := 3) (v := .int .i64 d2) rfl
  go_upto_region 7 with fail
  have hw : -50 ≤ x % 100 - 50 ∧ x % 100 - 50 ≤ 49 := by omega
  clear wx rx hx
  generalize x % 100 - 50 = wish at *
  go_wp2_with fail
  clear p0 q0 p1 q1 p2 q2 p3 q3
  obtain ⟨sa, ⟨ia1, ia2⟩, ⟨ia3, ia4⟩, ⟨ia5, ia6⟩, ia7, ia8⟩ := HA.out
  obtain ⟨sb, ⟨ib1, ib2⟩, ⟨ib3, ib4⟩, ⟨ib5, ib6⟩, ib7, ib8⟩ := HBB.out
  obtain ⟨ou, iu1, iu2, iu3, iu4⟩ := HU.out
  have A1 : I64 a1 := ⟨by omega, by omega⟩
  have A2 : I64 b1 := ⟨by omega, by omega⟩
  have A3 : I64 c1 := ⟨by omega, by omega⟩
  have A4 : I64 d1 := ⟨by omega, by omega⟩
  have E1 : I64 a2 := ⟨by omega, by omega⟩
  have E2 : I64 b2 := ⟨by omega, by omega⟩
  have E3 : I64 c2 := ⟨by omega, by omega⟩
  have E4 : I64 d2 := ⟨by omega, by omega⟩
  have F1 : I64 uN := ⟨by omega, by omega⟩
  have F2 : I64 uD := ⟨by omega, by omega⟩
  obtain ⟨mx1, mx2⟩ := max_64 A1 A2 E1 E2
  obtain ⟨mn1, mn2⟩ := min_64 A3 A4 E3 E4
  have HMS := Lib.hid (fun V => impl_msp a1 b1 c1 d1 a2 b2 c2 d2 V A1 A2 A3 A4 E1 E2 E3 E4)
  have HPK := Lib.hid (fun V => impl_pin a1 b1 c1 d1 wish V A1 A2 A3 A4)
  have HPI := pin_in sa wish
  obtain ⟨_, ox, _⟩ := isp_iff.1 HPI
  obtain ⟨X1, X2⟩ := ok_64' ox
  have HSA := Lib.hid (fun V => impl_spn a1 b1 c1 d1 V A1 A2 A3 A4)
  rw [sa] at HSA
  have HSB := Lib.hid (fun V => impl_spn a2 b2 c2 d2 V E1 E2 E3 E4)
  rw [sb] at HSB
  have HIX := Lib.hid (fun V => impl_isp a1 b1 c1 d1 (pinP a1 b1 c1 d1 wish).1 (pinP a1 b1 c1 d1 wish).2 V A1 A2 A3 A4 X1 X2)
  rw [HPI] at HIX
  have HAU := Lib.hid (fun V => impl_isp a1 b1 c1 d1 uN uD V A1 A2 A3 A4 F1 F2)
  have HBU := Lib.hid (fun V => impl_isp a2 b2 c2 d2 uN uD V E1 E2 E3 E4 F1 F2)
  have HAN := Lib.hid (fun V n (hn : -1000 ≤ n ∧ n ≤ 1000) => impl_isp a1 b1 c1 d1 n 1 V A1 A2 A3 A4 ⟨by omega, by omega⟩ ⟨by omega, by omega⟩)
  have HWI := Lib.hid (fun V => impl_whi a1 b1 c1 d1 V A1 A2 A3 A4)
  have HNR := Lib.hid (fun n (hn : -1000 ≤ n ∧ n ≤ 1000) k => pin_near (wish := wish) sa ⟨by omega, by omega⟩ hn k)
  have HWP := Lib.hid (who_pin (wish := wish) sa)
  have HIM := Lib.hid (fun (h : mspB a1 b1 c1 d1 a2 b2 c2 d2 = true) V => impl_isp (mspL a1 b1 c1 d1 a2 b2 c2 d2).1 (mspL a1 b1 c1 d1 a2 b2 c2 d2).2 (mspH a1 b1 c1 d1 a2 b2 c2 d2).1 (mspH a1 b1 c1 d1 a2 b2 c2 d2).2 uN uD V (by rw [(msp_yes h).1]; exact mx1) (by rw [(msp_yes h).1]; exact mx2) (by rw [(msp_yes h).2.1]; exact mn1) (by rw [(msp_yes h).2.1]; exact mn2) F1 F2)
  have HME := Lib.hid (fun (h : mspB a1 b1 c1 d1 a2 b2 c2 d2 = true) => (show ispB (mspL a1 b1 c1 d1 a2 b2 c2 d2).1 (mspL a1 b1 c1 d1 a2 b2 c2 d2).2 (mspH a1 b1 c1 d1 a2 b2 c2 d2).1 (mspH a1 b1 c1 d1 a2 b2 c2 d2).2 uN uD = (ispB a1 b1 c1 d1 uN uD && ispB a2 b2 c2 d2 uN uD) by rw [(msp_yes h).1, (msp_yes h).2.1]; exact meet_in h ou))
  have HMN := Lib.hid (fun (h : mspB a1 b1 c1 d1 a2 b2 c2 d2 = false) (k : ispB a1 b1 c1 d1 uN uD = true) (l : ispB a2 b2 c2 d2 uN uD = true) => meet_no h k l)
  clear sa sb ou ox HPI ia1 ia2 ia3 ia4 ia5 ia6 ia7 ia8 ib1 ib2 ib3 ib4 ib5 ib6 ib7 ib8 iu1 iu2 iu3 iu4 mx1 mx2 mn1 mn2 X1 X2 A1 A2 A3 A4 E1 E2 E3 E4 F1 F2
  generalize (mspL a1 b1 c1 d1 a2 b2 c2 d2).1 = m1 at *
  generalize (mspL a1 b1 c1 d1 a2 b2 c2 d2).2 = m2 at *
  generalize (mspH a1 b1 c1 d1 a2 b2 c2 d2).1 = m3 at *
  generalize (mspH a1 b1 c1 d1 a2 b2 c2 d2).2 = m4 at *
  generalize mspB a1 b1 c1 d1 a2 b2 c2 d2 = M at *
  generalize (pinP a1 b1 c1 d1 wish).1 = x1 at *
  generalize (pinP a1 b1 c1 d1 wish).2 = x2 at *
  generalize whoP a1 b1 c1 d1 = W at *
  generalize ispB a1 b1 c1 d1 uN uD = p at *
  generalize ispB a2 b2 c2 d2 uN uD = r at *
  generalize ispB m1 m2 m3 m4 uN uD = y at *
  with_reducible refine (HMS.out _).mono ?_
  rintro e w5 ⟨rfl, bl⟩
  have b_16 := below_to b_12 bl
  have BA_17 := BA_13.to bl
  have BB_18 := BB_14.to bl
  have BU_19 := BU_15.to bl
  clear b_12 BA_13 BB_14 BU_15
  clear bl
  have bN := below_one w5 (.cells #[.int .i64 m1, .int .i64 m2, .int .i64 m3, .int .i64 m4] 29)
  have BM0 := blk_new w5 #[.int .i64 m1, .int .i64 m2, .int .i64 m3, .int .i64 m4] 29 rfl
  have b_20 := below_to b_16 bN
  have BA_21 := BA_17.to bN
  have BB_22 := BB_18.to bN
  have BU_23 := BU_19.to bN
  clear b_16 BA_17 BB_18 BU_19
  clear bN
  have q0 := BA_21.cell0 (i := 0) (v := .int .i64 a1) rfl
  have q1 := BA_21.cell0 (i := 1) (v := .int .i64 b1) rfl
  have q2 := BA_21.cell0 (i := 2) (v := .int .i64 c1) rfl
  have q3 := BA_21.cell0 (i := 3) (v := .int .i64 d1) rfl
  go_wp2_with fail
  clear q0 q1 q2 q3
  generalize w5.alloc (.cells #[.int .i64 m1, .int .i64 m2, .int .i64 m3, .int .i64 m4] 29) = U5 at *
  obtain ⟨mb, hbk⟩ : ∃ b, w5.heap.size = b := ⟨_, rfl⟩
  rw [hbk] at BM0 ⊢
  clear hbk
  with_reducible refine (HPK.out _).mono ?_
  rintro e w6 ⟨rfl, bl⟩
  have b_24 := below_to b_20 bl
  have BA_25 := BA_21.to bl
  have BB_26 := BB_22.to bl
  have BU_27 := BU_23.to bl
  have BM_28 := BM0.to bl
  clear b_20 BA_21 BB_22 BU_23 BM0
  clear bl HMS HPK
  have bN := below_one w6 (.cells #[.int .i64 x1, .int .i64 x2] 27)
  have BX0 := blk_new w6 #[.int .i64 x1, .int .i64 x2] 27 rfl
  have b_29 := below_to b_24 bN
  have BA_30 := BA_25.to bN
  have BB_31 := BB_26.to bN
  have BU_32 := BU_27.to bN
  have BM_33 := BM_28.to bN
  clear b_24 BA_25 BB_26 BU_27 BM_28
  clear bN
  go_upto_region 9 with fail
  generalize w6.alloc (.cells #[.int .i64 x1, .int .i64 x2] 27) = U6 at *
  obtain ⟨xb, hxb⟩ : ∃ b, w6.heap.size = b := ⟨_, rfl⟩
  rw [hxb] at BX0 ⊢
  clear hxb
  go_cut [77] from 33 to 77 (fun s6 wx => s6 = .bool false ∧ Below U6.heap.size U6 wx)
  case first =>
    cases M with
    | true =>
      have HYM := Lib.hid (HIM.out (by simp))
      have hye := HME.out (by simp)
      subst hye
      cases p with
      | true =>
        cases r with
        | true =>
          have f00 := BA_30.cell0 (i := 0) (v := .int .i64 a1) rfl
          have f01 := BA_30.cell0 (i := 1) (v := .int .i64 b1) rfl
          have f02 := BA_30.cell0 (i := 2) (v := .int .i64 c1) rfl
          have f03 := BA_30.cell0 (i := 3) (v := .int .i64 d1) rfl
          have f10 := BB_31.cell0 (i := 0) (v := .int .i64 a2) rfl
          have f11 := BB_31.cell0 (i := 1) (v := .int .i64 b2) rfl
          have f12 := BB_31.cell0 (i := 2) (v := .int .i64 c2) rfl
          have f13 := BB_31.cell0 (i := 3) (v := .int .i64 d2) rfl
          have f20 := BU_32.cell0 (i := 0) (v := .int .i64 uN) rfl
          have f21 := BU_32.cell0 (i := 1) (v := .int .i64 uD) rfl
          have f30 := BM_33.cell0 (i := 0) (v := .int .i64 m1) rfl
          have f31 := BM_33.cell0 (i := 1) (v := .int .i64 m2) rfl
          have f32 := BM_33.cell0 (i := 2) (v := .int .i64 m3) rfl
          have f33 := BM_33.cell0 (i := 3) (v := .int .i64 m4) rfl
          have f40 := BX0.cell0 (i := 0) (v := .int .i64 x1) rfl
          have f41 := BX0.cell0 (i := 1) (v := .int .i64 x2) rfl
          refine wp_region_held_drew (S := (fun w' => w'.cell? ⟨ab, 0, none⟩ = some (.int .i64 a1) ∧ w'.cell? ⟨ab, 1, none⟩ = some (.int .i64 b1) ∧ w'.cell? ⟨ab, 2, none⟩ = some (.int .i64 c1) ∧ w'.cell? ⟨ab, 3, none⟩ = some (.int .i64 d1) ∧ w'.cell? ⟨bb, 0, none⟩ = some (.int .i64 a2) ∧ w'.cell? ⟨bb, 1, none⟩ = some (.int .i64 b2) ∧ w'.cell? ⟨bb, 2, none⟩ = some (.int .i64 c2) ∧ w'.cell? ⟨bb, 3, none⟩ = some (.int .i64 d2) ∧ w'.cell? ⟨ub, 0, none⟩ = some (.int .i64 uN) ∧ w'.cell? ⟨ub, 1, none⟩ = some (.int .i64 uD) ∧ w'.cell? ⟨mb, 0, none⟩ = some (.int .i64 m1) ∧ w'.cell? ⟨mb, 1, none⟩ = some (.int .i64 m2) ∧ w'.cell? ⟨mb, 2, none⟩ = some (.int .i64 m3) ∧ w'.cell? ⟨mb, 3, none⟩ = some (.int .i64 m4) ∧ w'.cell? ⟨xb, 0, none⟩ = some (.int .i64 x1) ∧ w'.cell? ⟨xb, 1, none⟩ = some (.int .i64 x2))) (by kernel_rfl) ?_ (fun hHeld => ?_)
          · (with_reducible refine keep16 BA_30 BB_31 BU_32 BM_33 BX0 ?_; repeat (first | (with_reducible exact Below.refl _ _) | refine below_bx2 ?_ _ | refine below_drw ?_ | refine below_to ?_ (by assumption)))
          refine wpAnyH_take (i := 0) (oi := spn9_0) (v := ?_) rfl (by as_aux_lemma => kernel_rfl) (by as_aux_lemma => kernel_rfl) (by as_aux_lemma => kernel_rfl) (fun _ _ _ h => h) (Or.inl ⟨by rfl, ?_⟩) (by assumption) ?_
          rotate_left
          · unfold spn9_0; intro w hSw; (try dsimp only at hSw); go_simp; try (with_reducible rfl)
          try simp only [spn9_0, Act.put, List.setIfInBounds_toArray, List.set_cons_zero, List.set_cons_succ]
          refine wpAnyH_ready (rs := [1]) (by as_aux_lemma => kernel_rfl) (by simp) ?_
          refine (AllReadyH.cons (o := spn9_1) rfl (fun K hK => ?_) AllReadyH.nil)
          unfold spn9_1
          go_simp
          (go_at_call 12; (with_reducible refine (HSA.out _).mono ?_); rintro e z1 ⟨rfl, bl1⟩)
          try go_wp2_with fail
          refine hK.out _ _ ?_ (fun hHeld2 => ?_)
          · (with_reducible refine keep16 BA_30 BB_31 BU_32 BM_33 BX0 ?_; repeat (first | (with_reducible exact Below.refl _ _) | refine below_bx2 ?_ _ | refine below_drw ?_ | refine below_to ?_ (by assumption)))
          clear hK K hHeld
          have hHeld := hHeld2
          clear hHeld2
          try simp only [spn9_1, Act.put, List.setIfInBounds_toArray, List.set_cons_zero, List.set_cons_succ]
          as_aux_lemma =>
           refine wpAnyH_take (i := 2) (oi := spn9_2) (v := ?_) rfl (by as_aux_lemma => kernel_rfl) (by as_aux_lemma => kernel_rfl) (by as_aux_lemma => kernel_rfl) (fun _ _ _ h => h) (Or.inl ⟨by rfl, ?_⟩) (by assumption) ?_
           rotate_left
           · unfold spn9_2; intro w hSw; (try dsimp only at hSw); go_simp; try (with_reducible rfl)
           try simp only [spn9_2, Act.put, List.setIfInBounds_toArray, List.set_cons_zero, List.set_cons_succ]
           refine wpAnyH_take (i := 3) (oi := spn9_3) (v := ?_) rfl (by as_aux_lemma => kernel_rfl) (by as_aux_lemma => kernel_rfl) (by as_aux_lemma => kernel_rfl) (fun _ _ _ h => h) (Or.inl ⟨by rfl, ?_⟩) (by assumption) ?_
           rotate_left
           · unfold spn9_3; intro w hSw; (try dsimp only at hSw); go_simp; try (with_reducible rfl)
           try simp only [spn9_3, Act.put, List.setIfInBounds_toArray, List.set_cons_zero, List.set_cons_succ]
           refine wpAnyH_take (i := 4) (oi := spn9_4) (v := ?_) rfl (by as_aux_lemma => kernel_rfl) (by as_aux_lemma => kernel_rfl) (by as_aux_lemma => kernel_rfl) (fun _ _ _ h => h) (Or.inl ⟨by rfl, ?_⟩) (by assumption) ?_
           rotate_left
           · unfold spn9_4; intro w hSw; (try dsimp only at hSw); go_simp; try (with_reducible rfl)
           try simp only [spn9_4, Act.put, List.setIfInBounds_toArray, List.set_cons_zero, List.set_cons_succ]
           refine wpAnyH_ready (rs := [5]) (by as_aux_lemma => kernel_rfl) (by simp) ?_
           refine (AllReadyH.cons (o := spn9_5) rfl (fun K hK => ?_) AllReadyH.nil)
           unfold spn9_5
           go_simp
           (go_at_call 12; (with_reducible refine (HSB.out _).mono ?_); rintro e z5 ⟨rfl, bl5⟩)
           try go_wp2_with fail
           refine hK.out _ _ ?_ (fun hHeld2 => ?_)
           · (with_reducible refine keep16 BA_30 BB_31 BU_32 BM_33 BX0 ?_; repeat (first | (with_reducible exact Below.refl _ _) | refine below_bx2 ?_ _ | refine below_drw ?_ | refine below_to ?_ (by assumption)))
           clear hK K hHeld
           have hHeld := hHeld2
           clear hHeld2
           try simp only [spn9_5, Act.put, List.setIfInBounds_toArray, List.set_cons_zero, List.set_cons_succ]
           as_aux_lemma =>
            refine wpAnyH_take (i := 6) (oi := spn9_6) (v := ?_) rfl (by as_aux_lemma => kernel_rfl) (by as_aux_lemma => kernel_rfl) (by as_aux_lemma => kernel_rfl) (fun _ _ _ h => h) (Or.inl ⟨by rfl, ?_⟩) (by assumption) ?_
            rotate_left
            · unfold spn9_6; intro w hSw; (try dsimp only at hSw); go_simp; try (with_reducible rfl)
            try simp only [spn9_6, Act.put, List.setIfInBounds_toArray, List.set_cons_zero, List.set_cons_succ]
            refine wpAnyH_take (i := 7) (oi := spn9_7) (v := ?_) rfl (by as_aux_lemma => kernel_rfl) (by as_aux_lemma => kernel_rfl) (by as_aux_lemma => kernel_rfl) (fun _ _ _ h => h) (Or.inl ⟨by rfl, ?_⟩) (by assumption) ?_
            rotate_left
            · unfold spn9_7; intro w hSw; (try dsimp only at hSw); go_simp; try (with_reducible rfl)
            try simp only [spn9_7, Act.put, List.setIfInBounds_toArray, List.set_cons_zero, List.set_cons_succ]
            refine wpAnyH_take (i := 8) (oi := spn9_8) (v := ?_) rfl (by as_aux_lemma => kernel_rfl) (by as_aux_lemma => kernel_rfl) (by as_aux_lemma => kernel_rfl) (fun _ _ _ h => h) (Or.inl ⟨by rfl, ?_⟩) (by assumption) ?_
            rotate_left
            · unfold spn9_8; intro w hSw; (try dsimp only at hSw); go_simp; try (with_reducible rfl)
            try simp only [spn9_8, Act.put, List.setIfInBounds_toArray, List.set_cons_zero, List.set_cons_succ]
            refine wpAnyH_take (i := 9) (oi := spn9_9) (v := ?_) rfl (by as_aux_lemma => kernel_rfl) (by as_aux_lemma => kernel_rfl) (by as_aux_lemma => kernel_rfl) (fun _ _ _ h => h) (Or.inl ⟨by rfl, ?_⟩) (by assumption) ?_
            rotate_left
            · unfold spn9_9; intro w hSw; (try dsimp only at hSw); go_simp; try (with_reducible rfl)
            try simp only [spn9_9, Act.put, List.setIfInBounds_toArray, List.set_cons_zero, List.set_cons_succ]
            refine wpAnyH_take (i := 10) (oi := spn9_10) (v := ?_) rfl (by as_aux_lemma => kernel_rfl) (by as_aux_lemma => kernel_rfl) (by as_aux_lemma => kernel_rfl) (fun _ _ _ h => h) (Or.inl ⟨by rfl, ?_⟩) (by assumption) ?_
            rotate_left
            · unfold spn9_10; intro w hSw; (try dsimp only at hSw); go_simp; try (with_reducible rfl)
            try simp only [spn9_10, Act.put, List.setIfInBounds_toArray, List.set_cons_zero, List.set_cons_succ]
            refine wpAnyH_ready (rs := [11]) (by as_aux_lemma => kernel_rfl) (by simp) ?_
            refine (AllReadyH.cons (o := spn9_11) rfl (fun K hK => ?_) AllReadyH.nil)
            unfold spn9_11
            go_simp
            (go_at_call 15; (with_reducible refine (HIX.out _).mono ?_); rintro e z11 ⟨rfl, bl11⟩)
            try go_wp2_with fail
            refine hK.out _ _ ?_ (fun hHeld2 => ?_)
            · (with_reducible refine keep16 BA_30 BB_31 BU_32 BM_33 BX0 ?_; repeat (first | (with_reducible exact Below.refl _ _) | refine below_bx2 ?_ _ | refine below_drw ?_ | refine below_to ?_ (by assumption)))
            clear hK K hHeld
            have hHeld := hHeld2
            clear hHeld2
            try simp only [spn9_11, Act.put, List.setIfInBounds_toArray, List.set_cons_zero, List.set_cons_succ]
            as_aux_lemma =>
             refine wpAnyH_take (i := 12) (oi := spn9_12) (v := ?_) rfl (by as_aux_lemma => kernel_rfl) (by as_aux_lemma => kernel_rfl) (by as_aux_lemma => kernel_rfl) (fun _ _ _ h => h) (Or.inl ⟨by rfl, ?_⟩) (by assumption) ?_
             rotate_left
             · unfold spn9_12; intro w hSw; (try dsimp only at hSw); go_simp; try (with_reducible rfl)
             try simp only [spn9_12, Act.put, List.setIfInBounds_toArray, List.set_cons_zero, List.set_cons_succ]
             refine wpAnyH_take (i := 13) (oi := spn9_13) (v := ?_) rfl (by as_aux_lemma => kernel_rfl) (by as_aux_lemma => kernel_rfl) (by as_aux_lemma => kernel_rfl) (fun _ _ _ h => h) (Or.inl ⟨by rfl, ?_⟩) (by assumption) ?_
             rotate_left
             · unfold spn9_13; intro w hSw; (try dsimp only at hSw); go_simp; try (with_reducible rfl)
             try simp only [spn9_13, Act.put, List.setIfInBounds_toArray, List.set_cons_zero, List.set_cons_succ]
             refine wpAnyH_take (i := 14) (oi := spn9_14) (v := ?_) rfl (by as_aux_lemma => kernel_rfl) (by as_aux_lemma => kernel_rfl) (by as_aux_lemma => kernel_rfl) (fun _ _ _ h => h) (Or.inl ⟨by rfl, ?_⟩) (by assumption) ?_
             rotate_left
             · unfold spn9_14; intro w hSw; (try dsimp only at hSw); go_simp; try (with_reducible rfl)
             try simp only [spn9_14, Act.put, List.setIfInBounds_toArray, List.set_cons_zero, List.set_cons_succ]
             refine wpAnyH_take (i := 15) (oi := spn9_15) (v := ?_) rfl (by as_aux_lemma => kernel_rfl) (by as_aux_lemma => kernel_rfl) (by as_aux_lemma => kernel_rfl) (fun _ _ _ h => h) (Or.inl ⟨by rfl, ?_⟩) (by assumption) ?_
             rotate_left
             · unfold spn9_15; intro w hSw; (try dsimp only at hSw); go_simp; try (with_reducible rfl)
             try simp only [spn9_15, Act.put, List.setIfInBounds_toArray, List.set_cons_zero, List.set_cons_succ]
             refine wpAnyH_take (i := 16) (oi := spn9_16) (v := ?_) rfl (by as_aux_lemma => kernel_rfl) (by as_aux_lemma => kernel_rfl) (by as_aux_lemma => kernel_rfl) (fun _ _ _ h => h) (Or.inl ⟨by rfl, ?_⟩) (by assumption) ?_
             rotate_left
             · unfold spn9_16; intro w hSw; (try dsimp only at hSw); go_simp; try (with_reducible rfl)
             try simp only [spn9_16, Act.put, List.setIfInBounds_toArray, List.set_cons_zero, List.set_cons_succ]
             refine wpAnyH_take (i := 17) (oi := spn9_17) (v := ?_) rfl (by as_aux_lemma => kernel_rfl) (by as_aux_lemma => kernel_rfl) (by as_aux_lemma => kernel_rfl) (fun _ _ _ h => h) (Or.inl ⟨by rfl, ?_⟩) (by assumption) ?_
             rotate_left
             · unfold spn9_17; intro w hSw; (try dsimp only at hSw); go_simp; try (with_reducible rfl)
             try simp only [spn9_17, Act.put, List.setIfInBounds_toArray, List.set_cons_zero, List.set_cons_succ]
             refine wpAnyH_take (i := 18) (oi := spn9_18) (v := ?_) rfl (by as_aux_lemma => kernel_rfl) (by as_aux_lemma => kernel_rfl) (by as_aux_lemma => kernel_rfl) (fun _ _ _ h => h) (Or.inl ⟨by rfl, ?_⟩) (by assumption) ?_
             rotate_left
             · unfold spn9_18; intro w hSw; (try dsimp only at hSw); go_simp; try (with_reducible rfl)
             try simp only [spn9_18, Act.put, List.setIfInBounds_toArray, List.set_cons_zero, List.set_cons_succ]
             refine wpAnyH_take (i := 20) (oi := spn9_20) (v := ?_) rfl (by as_aux_lemma => kernel_rfl) (by as_aux_lemma => kernel_rfl) (by as_aux_lemma => kernel_rfl) (fun _ _ _ h => h) (Or.inl ⟨by rfl, ?_⟩) (by assumption) ?_
             rotate_left
             · unfold spn9_20; intro w hSw; (try dsimp only at hSw); go_simp; try (with_reducible rfl)
             try simp only [spn9_20, Act.put, List.setIfInBounds_toArray, List.set_cons_zero, List.set_cons_succ]
             refine wpAnyH_take (i := 21) (oi := spn9_21) (v := ?_) rfl (by as_aux_lemma => kernel_rfl) (by as_aux_lemma => kernel_rfl) (by as_aux_lemma => kernel_rfl) (fun _ _ _ h => h) (Or.inl ⟨by rfl, ?_⟩) (by assumption) ?_
             rotate_left
             · unfold spn9_21; intro w hSw; (try dsimp only at hSw); go_simp; try (with_reducible rfl)
             try simp only [spn9_21, Act.put, List.setIfInBounds_toArray, List.set_cons_zero, List.set_cons_succ]
             refine wpAnyH_ready (rs := [19]) (by as_aux_lemma => kernel_rfl) (by simp) ?_
             refine (AllReadyH.cons (o := spn9_19) rfl (fun K hK => ?_) AllReadyH.nil)
             unfold spn9_19
             go_simp
             (go_at_call 15; (with_reducible refine (HYM.out _).mono ?_); rintro e z19 ⟨rfl, bl19⟩)
             try go_wp2_with fail
             refine hK.out _ _ ?_ (fun hHeld2 => ?_)
             · (with_reducible refine keep16 BA_30 BB_31 BU_32 BM_33 BX0 ?_; repeat (first | (with_reducible exact Below.refl _ _) | refine below_bx2 ?_ _ | refine below_drw ?_ | refine below_to ?_ (by assumption)))
             clear hK K hHeld
             have hHeld := hHeld2
             clear hHeld2
             try simp only [spn9_19, Act.put, List.setIfInBounds_toArray, List.set_cons_zero, List.set_cons_succ]
             as_aux_lemma =>
              refine wpAnyH_ready (rs := [22]) (by as_aux_lemma => kernel_rfl) (by simp) ?_
              refine (AllReadyH.cons (o := spn9_22) rfl (fun K hK => ?_) AllReadyH.nil)
              unfold spn9_22
              go_simp
              (go_at_call 15; (with_reducible refine (HAU.out _).mono ?_); rintro e z22 ⟨rfl, bl22⟩)
              try go_wp2_with fail
              refine hK.out _ _ ?_ (fun hHeld2 => ?_)
              · (with_reducible refine keep16 BA_30 BB_31 BU_32 BM_33 BX0 ?_; repeat (first | (with_reducible exact Below.refl _ _) | refine below_bx2 ?_ _ | refine below_drw ?_ | refine below_to ?_ (by assumption)))
              clear hK K hHeld
              have hHeld := hHeld2
              clear hHeld2
              try simp only [spn9_22, Act.put, List.setIfInBounds_toArray, List.set_cons_zero, List.set_cons_succ]
              as_aux_lemma =>
               refine wpAnyH_take (i := 23) (oi := spn9_23) (v := ?_) rfl (by as_aux_lemma => kernel_rfl) (by as_aux_lemma => kernel_rfl) (by as_aux_lemma => kernel_rfl) (fun _ _ _ h => h) (Or.inl ⟨by rfl, ?_⟩) (by assumption) ?_
               rotate_left
               · unfold spn9_23; intro w hSw; (try dsimp only at hSw); go_simp; try (with_reducible rfl)
               try simp only [spn9_23, Act.put, List.setIfInBounds_toArray, List.set_cons_zero, List.set_cons_succ]
               refine wpAnyH_take (i := 24) (oi := spn9_24) (v := ?_) rfl (by as_aux_lemma => kernel_rfl) (by as_aux_lemma => kernel_rfl) (by as_aux_lemma => kernel_rfl) (fun _ _ _ h => h) (Or.inl ⟨by rfl, ?_⟩) (by assumption) ?_
               rotate_left
               · unfold spn9_24; intro w hSw; (try dsimp only at hSw); go_simp; try (with_reducible rfl)
               try simp only [spn9_24, Act.put, List.setIfInBounds_toArray, List.set_cons_zero, List.set_cons_succ]
               refine wpAnyH_take (i := 25) (oi := spn9_25) (v := ?_) rfl (by as_aux_lemma => kernel_rfl) (by as_aux_lemma => kernel_rfl) (by as_aux_lemma => kernel_rfl) (fun _ _ _ h => h) (Or.inl ⟨by rfl, ?_⟩) (by assumption) ?_
               rotate_left
               · unfold spn9_25; intro w hSw; (try dsimp only at hSw); go_simp; try (with_reducible rfl)
               try simp only [spn9_25, Act.put, List.setIfInBounds_toArray, List.set_cons_zero, List.set_cons_succ]
               refine wpAnyH_ready (rs := [26]) (by as_aux_lemma => kernel_rfl) (by simp) ?_
               refine (AllReadyH.cons (o := spn9_26) rfl (fun K hK => ?_) AllReadyH.nil)
               unfold spn9_26
               go_simp
               (go_at_call 15; (with_reducible refine (HBU.out _).mono ?_); rintro e z26 ⟨rfl, bl26⟩)
               try go_wp2_with fail
               refine hK.out _ _ ?_ (fun hHeld2 => ?_)
               · (with_reducible refine keep16 BA_30 BB_31 BU_32 BM_33 BX0 ?_; repeat (first | (with_reducible exact Below.refl _ _) | refine below_bx2 ?_ _ | refine below_drw ?_ | refine below_to ?_ (by assumption)))
               clear hK K hHeld
               have hHeld := hHeld2
               clear hHeld2
               try simp only [spn9_26, Act.put, List.setIfInBounds_toArray, List.set_cons_zero, List.set_cons_succ]
               as_aux_lemma =>
                refine wpAnyH_take (i := 27) (oi := spn9_27) (v := ?_) rfl (by as_aux_lemma => kernel_rfl) (by as_aux_lemma => kernel_rfl) (by as_aux_lemma => kernel_rfl) (fun _ _ _ h => h) (Or.inl ⟨by rfl, ?_⟩) (by assumption) ?_
                rotate_left
                · unfold spn9_27; intro w hSw; (try dsimp only at hSw); go_simp; try (with_reducible rfl)
                try simp only [spn9_27, Act.put, List.setIfInBounds_toArray, List.set_cons_zero, List.set_cons_succ]
                refine wpAnyH_take (i := 28) (oi := spn9_28) (v := ?_) rfl (by as_aux_lemma => kernel_rfl) (by as_aux_lemma => kernel_rfl) (by as_aux_lemma => kernel_rfl) (fun _ _ _ h => h) (Or.inl ⟨by rfl, ?_⟩) (by assumption) ?_
                rotate_left
                · unfold spn9_28; intro w hSw; (try dsimp only at hSw); go_simp; try (with_reducible rfl)
                try simp only [spn9_28, Act.put, List.setIfInBounds_toArray, List.set_cons_zero, List.set_cons_succ]
                refine wpAnyH_take (i := 29) (oi := spn9_29) (v := ?_) rfl (by as_aux_lemma => kernel_rfl) (by as_aux_lemma => kernel_rfl) (by as_aux_lemma => kernel_rfl) (fun _ _ _ h => h) (Or.inl ⟨by rfl, ?_⟩) (by assumption) ?_
                rotate_left
                · unfold spn9_29; intro w hSw; (try dsimp only at hSw); go_simp; try (with_reducible rfl)
                try simp only [spn9_29, Act.put, List.setIfInBounds_toArray, List.set_cons_zero, List.set_cons_succ]
                refine wpAnyH_take (i := 30) (oi := spn9_30) (v := ?_) rfl (by as_aux_lemma => kernel_rfl) (by as_aux_lemma => kernel_rfl) (by as_aux_lemma => kernel_rfl) (fun _ _ _ h => h) (Or.inl ⟨by rfl, ?_⟩) (by assumption) ?_
                rotate_left
                · unfold spn9_30; intro w hSw; (try dsimp only at hSw); go_simp; try (with_reducible rfl)
                try simp only [spn9_30, Act.put, List.setIfInBounds_toArray, List.set_cons_zero, List.set_cons_succ]
                refine wpAnyH_take (i := 31) (oi := spn9_31) (v := ?_) rfl (by as_aux_lemma => kernel_rfl) (by as_aux_lemma => kernel_rfl) (by as_aux_lemma => kernel_rfl) (fun _ _ _ h => h) (Or.inl ⟨by rfl, ?_⟩) (by assumption) ?_
                rotate_left
                · unfold spn9_31; intro w hSw; (try dsimp only at hSw); go_simp; try (with_reducible rfl)
                try simp only [spn9_31, Act.put, List.setIfInBounds_toArray, List.set_cons_zero, List.set_cons_succ]
                refine wpAnyH_take (i := 32) (oi := spn9_32) (v := ?_) rfl (by as_aux_lemma => kernel_rfl) (by as_aux_lemma => kernel_rfl) (by as_aux_lemma => kernel_rfl) (fun _ _ _ h => h) (Or.inl ⟨by rfl, ?_⟩) (by assumption) ?_
                rotate_left
                · unfold spn9_32; intro w hSw; (try dsimp only at hSw); go_simp; try (with_reducible rfl)
                try simp only [spn9_32, Act.put, List.setIfInBounds_toArray, List.set_cons_zero, List.set_cons_succ]
                refine wpAnyH_take (i := 33) (oi := spn9_33) (v := ?_) rfl (by as_aux_lemma => kernel_rfl) (by as_aux_lemma => kernel_rfl) (by as_aux_lemma => kernel_rfl) (fun _ _ _ h => h) (Or.inl ⟨by rfl, ?_⟩) (by assumption) ?_
                rotate_left
                · unfold spn9_33; intro w hSw; (try dsimp only at hSw); go_simp; try (with_reducible rfl)
                try simp only [spn9_33, Act.put, List.setIfInBounds_toArray, List.set_cons_zero, List.set_cons_succ]
                refine wpAnyH_take (i := 34) (oi := spn9_34) (v := ?_) rfl (by as_aux_lemma => kernel_rfl) (by as_aux_lemma => kernel_rfl) (by as_aux_lemma => kernel_rfl) (fun _ _ _ h => h) (Or.inl ⟨by rfl, ?_⟩) (by assumption) ?_
                rotate_left
                · unfold spn9_34; intro w hSw; (try dsimp only at hSw); go_simp; try (with_reducible rfl)
                try simp only [spn9_34, Act.put, List.setIfInBounds_toArray, List.set_cons_zero, List.set_cons_succ]
                refine wpAnyH_take (i := 35) (oi := spn9_35) (v := undef) rfl (by as_aux_lemma => kernel_rfl) (by as_aux_lemma => kernel_rfl) (by as_aux_lemma => kernel_rfl) (fun _ _ _ h => h) (Or.inr ⟨by rfl, rfl⟩) (by assumption) ?_
                try simp only [spn9_35, Act.put, List.setIfInBounds_toArray, List.set_cons_zero, List.set_cons_succ]
                refine wpAnyH_take (i := 36) (oi := spn9_36) (v := undef) rfl (by as_aux_lemma => kernel_rfl) (by as_aux_lemma => kernel_rfl) (by as_aux_lemma => kernel_rfl) (fun _ _ _ h => h) (Or.inr ⟨by rfl, rfl⟩) (by assumption) ?_
                try simp only [spn9_36, Act.put, List.setIfInBounds_toArray, List.set_cons_zero, List.set_cons_succ]
                refine wpAnyH_take (i := 37) (oi := spn9_37) (v := undef) rfl (by as_aux_lemma => kernel_rfl) (by as_aux_lemma => kernel_rfl) (by as_aux_lemma => kernel_rfl) (fun _ _ _ h => h) (Or.inr ⟨by rfl, rfl⟩) (by assumption) ?_
                try simp only [spn9_37, Act.put, List.setIfInBounds_toArray, List.set_cons_zero, List.set_cons_succ]
                refine wpAnyH_take (i := 38) (oi := spn9_38) (v := ?_) rfl (by as_aux_lemma => kernel_rfl) (by as_aux_lemma => kernel_rfl) (by as_aux_lemma => kernel_rfl) (fun _ _ _ h => h) (Or.inl ⟨by rfl, ?_⟩) (by assumption) ?_
                rotate_left
                · unfold spn9_38; intro w hSw; (try dsimp only at hSw); go_simp; try (with_reducible rfl)
                try simp only [spn9_38, Act.put, List.setIfInBounds_toArray, List.set_cons_zero, List.set_cons_succ]
                refine wpAnyH_take (i := 39) (oi := spn9_39) (v := ?_) rfl (by as_aux_lemma => kernel_rfl) (by as_aux_lemma => kernel_rfl) (by as_aux_lemma => kernel_rfl) (fun _ _ _ h => h) (Or.inl ⟨by rfl, ?_⟩) (by assumption) ?_
                rotate_left
                · unfold spn9_39; intro w hSw; (try dsimp only at hSw); go_simp; try (with_reducible rfl)
                try simp only [spn9_39, Act.put, List.setIfInBounds_toArray, List.set_cons_zero, List.set_cons_succ]
                refine wpAnyH_take (i := 40) (oi := spn9_40) (v := undef) rfl (by as_aux_lemma => kernel_rfl) (by as_aux_lemma => kernel_rfl) (by as_aux_lemma => kernel_rfl) (fun _ _ _ h => h) (Or.inr ⟨by rfl, rfl⟩) (by assumption) ?_
                try simp only [spn9_40, Act.put, List.setIfInBounds_toArray, List.set_cons_zero, List.set_cons_succ]
                refine wpAnyH_take (i := 41) (oi := spn9_41) (v := undef) rfl (by as_aux_lemma => kernel_rfl) (by as_aux_lemma => kernel_rfl) (by as_aux_lemma => kernel_rfl) (fun _ _ _ h => h) (Or.inr ⟨by rfl, rfl⟩) (by assumption) ?_
                try simp only [spn9_41, Act.put, List.setIfInBounds_toArray, List.set_cons_zero, List.set_cons_succ]
                refine wpAnyH_take (i := 42) (oi := spn9_42) (v := undef) rfl (by as_aux_lemma => kernel_rfl) (by as_aux_lemma => kernel_rfl) (by as_aux_lemma => kernel_rfl) (fun _ _ _ h => h) (Or.inr ⟨by rfl, rfl⟩) (by assumption) ?_
                try simp only [spn9_42, Act.put, List.setIfInBounds_toArray, List.set_cons_zero, List.set_cons_succ]
                refine wpAnyH_take (i := 43) (oi := spn9_43) (v := ?_) rfl (by as_aux_lemma => kernel_rfl) (by as_aux_lemma => kernel_rfl) (by as_aux_lemma => kernel_rfl) (fun _ _ _ h => h) (Or.inl ⟨by rfl, ?_⟩) (by assumption) ?_
                rotate_left
                · unfold spn9_43; intro w hSw; (try dsimp only at hSw); go_simp; try (with_reducible rfl)
                try simp only [spn9_43, Act.put, List.setIfInBounds_toArray, List.set_cons_zero, List.set_cons_succ]
                refine wpAnyH_take (i := 44) (oi := spn9_44) (v := ?_) rfl (by as_aux_lemma => kernel_rfl) (by as_aux_lemma => kernel_rfl) (by as_aux_lemma => kernel_rfl) (fun _ _ _ h => h) (Or.inl ⟨by rfl, ?_⟩) (by assumption) ?_
                rotate_left
                · unfold spn9_44; intro w hSw; (try dsimp only at hSw); go_simp; try (with_reducible rfl)
                try simp only [spn9_44, Act.put, List.setIfInBounds_toArray, List.set_cons_zero, List.set_cons_succ]
                as_aux_lemma =>
                 refine wpAnyH_done (by kernel_rfl) ?_ _
                 go_wp2_with fail
                 go_meet
                 refine ⟨by simp, ?_⟩
                 repeat (first | (with_reducible exact Below.refl _ _) | refine below_bx2 ?_ _ | refine below_drw ?_ | refine below_to ?_ (by assumption))
        | false =>
          have f00 := BA_30.cell0 (i := 0) (v := .int .i64 a1) rfl
          have f01 := BA_30.cell0 (i := 1) (v := .int .i64 b1) rfl
          have f02 := BA_30.cell0 (i := 2) (v := .int .i64 c1) rfl
          have f03 := BA_30.cell0 (i := 3) (v := .int .i64 d1) rfl
          have f10 := BB_31.cell0 (i := 0) (v := .int .i64 a2) rfl
          have f11 := BB_31.cell0 (i := 1) (v := .int .i64 b2) rfl
          have f12 := BB_31.cell0 (i := 2) (v := .int .i64 c2) rfl
          have f13 := BB_31.cell0 (i := 3) (v := .int .i64 d2) rfl
          have f20 := BU_32.cell0 (i := 0) (v := .int .i64 uN) rfl
          have f21 := BU_32.cell0 (i := 1) (v := .int .i64 uD) rfl
          have f30 := BM_33.cell0 (i := 0) (v := .int .i64 m1) rfl
          have f31 := BM_33.cell0 (i := 1) (v := .int .i64 m2) rfl
          have f32 := BM_33.cell0 (i := 2) (v := .int .i64 m3) rfl
          have f33 := BM_33.cell0 (i := 3) (v := .int .i64 m4) rfl
          have f40 := BX0.cell0 (i := 0) (v := .int .i64 x1) rfl
          have f41 := BX0.cell0 (i := 1) (v := .int .i64 x2) rfl
          refine wp_region_held_drew (S := (fun w' => w'.cell? ⟨ab, 0, none⟩ = some (.int .i64 a1) ∧ w'.cell? ⟨ab, 1, none⟩ = some (.int .i64 b1) ∧ w'.cell? ⟨ab, 2, none⟩ = some (.int .i64 c1) ∧ w'.cell? ⟨ab, 3, none⟩ = some (.int .i64 d1) ∧ w'.cell? ⟨bb, 0, none⟩ = some (.int .i64 a2) ∧ w'.cell? ⟨bb, 1, none⟩ = some (.int .i64 b2) ∧ w'.cell? ⟨bb, 2, none⟩ = some (.int .i64 c2) ∧ w'.cell? ⟨bb, 3, none⟩ = some (.int .i64 d2) ∧ w'.cell? ⟨ub, 0, none⟩ = some (.int .i64 uN) ∧ w'.cell? ⟨ub, 1, none⟩ = some (.int .i64 uD) ∧ w'.cell? ⟨mb, 0, none⟩ = some (.int .i64 m1) ∧ w'.cell? ⟨mb, 1, none⟩ = some (.int .i64 m2) ∧ w'.cell? ⟨mb, 2, none⟩ = some (.int .i64 m3) ∧ w'.cell? ⟨mb, 3, none⟩ = some (.int .i64 m4) ∧ w'.cell? ⟨xb, 0, none⟩ = some (.int .i64 x1) ∧ w'.cell? ⟨xb, 1, none⟩ = some (.int .i64 x2))) (by kernel_rfl) ?_ (fun hHeld => ?_)
          · (with_reducible refine keep16 BA_30 BB_31 BU_32 BM_33 BX0 ?_; repeat (first | (with_reducible exact Below.refl _ _) | refine below_bx2 ?_ _ | refine below_drw ?_ | refine below_to ?_ (by assumption)))
          refine wpAnyH_take (i := 0) (oi := spn9_0) (v := ?_) rfl (by as_aux_lemma => kernel_rfl) (by as_aux_lemma => kernel_rfl) (by as_aux_lemma => kernel_rfl) (fun _ _ _ h => h) (Or.inl ⟨by rfl, ?_⟩) (by assumption) ?_
          rotate_left
          · unfold spn9_0; intro w hSw; (try dsimp only at hSw); go_simp; try (with_reducible rfl)
          try simp only [spn9_0, Act.put, List.setIfInBounds_toArray, List.set_cons_zero, List.set_cons_succ]
          refine wpAnyH_ready (rs := [1]) (by as_aux_lemma => kernel_rfl) (by simp) ?_
          refine (AllReadyH.cons (o := spn9_1) rfl (fun K hK => ?_) AllReadyH.nil)
          unfold spn9_1
          go_simp
          (go_at_call 12; (with_reducible refine (HSA.out _).mono ?_); rintro e z1 ⟨rfl, bl1⟩)
          try go_wp2_with fail
          refine hK.out _ _ ?_ (fun hHeld2 => ?_)
          · (with_reducible refine keep16 BA_30 BB_31 BU_32 BM_33 BX0 ?_; repeat (first | (with_reducible exact Below.refl _ _) | refine below_bx2 ?_ _ | refine below_drw ?_ | refine below_to ?_ (by assumption)))
          clear hK K hHeld
          have hHeld := hHeld2
          clear hHeld2
          try simp only [spn9_1, Act.put, List.setIfInBounds_toArray, List.set_cons_zero, List.set_cons_succ]
          as_aux_lemma =>
           refine wpAnyH_take (i := 2) (oi := spn9_2) (v := ?_) rfl (by as_aux_lemma => kernel_rfl) (by as_aux_lemma => kernel_rfl) (by as_aux_lemma => kernel_rfl) (fun _ _ _ h => h) (Or.inl ⟨by rfl, ?_⟩) (by assumption) ?_
           rotate_left
           · unfold spn9_2; intro w hSw; (try dsimp only at hSw); go_simp; try (with_reducible rfl)
           try simp only [spn9_2, Act.put, List.setIfInBounds_toArray, List.set_cons_zero, List.set_cons_succ]
           refine wpAnyH_take (i := 3) (oi := spn9_3) (v := ?_) rfl (by as_aux_lemma => kernel_rfl) (by as_aux_lemma => kernel_rfl) (by as_aux_lemma => kernel_rfl) (fun _ _ _ h => h) (Or.inl ⟨by rfl, ?_⟩) (by assumption) ?_
           rotate_left
           · unfold spn9_3; intro w hSw; (try dsimp only at hSw); go_simp; try (with_reducible rfl)
           try simp only [spn9_3, Act.put, List.setIfInBounds_toArray, List.set_cons_zero, List.set_cons_succ]
           refine wpAnyH_take (i := 4) (oi := spn9_4) (v := ?_) rfl (by as_aux_lemma => kernel_rfl) (by as_aux_lemma => kernel_rfl) (by as_aux_lemma => kernel_rfl) (fun _ _ _ h => h) (Or.inl ⟨by rfl, ?_⟩) (by assumption) ?_
           rotate_left
           · unfold spn9_4; intro w hSw; (try dsimp only at hSw); go_simp; try (with_reducible rfl)
           try simp only [spn9_4, Act.put, List.setIfInBounds_toArray, List.set_cons_zero, List.set_cons_succ]
           refine wpAnyH_ready (rs := [5]) (by as_aux_lemma => kernel_rfl) (by simp) ?_
           refine (AllReadyH.cons (o := spn9_5) rfl (fun K hK => ?_) AllReadyH.nil)
           unfold spn9_5
           go_simp
           (go_at_call 12; (with_reducible refine (HSB.out _).mono ?_); rintro e z5 ⟨rfl, bl5⟩)
           try go_wp2_with fail
           refine hK.out _ _ ?_ (fun hHeld2 => ?_)
           · (with_reducible refine keep16 BA_30 BB_31 BU_32 BM_33 BX0 ?_; repeat (first | (with_reducible exact Below.refl _ _) | refine below_bx2 ?_ _ | refine below_drw ?_ | refine below_to ?_ (by assumption)))
           clear hK K hHeld
           have hHeld := hHeld2
           clear hHeld2
           try simp only [spn9_5, Act.put, List.setIfInBounds_toArray, List.set_cons_zero, List.set_cons_succ]
           as_aux_lemma =>
            refine wpAnyH_take (i := 6) (oi := spn9_6) (v := ?_) rfl (by as_aux_lemma => kernel_rfl) (by as_aux_lemma => kernel_rfl) (by as_aux_lemma => kernel_rfl) (fun _ _ _ h => h) (Or.inl ⟨by rfl, ?_⟩) (by assumption) ?_
            rotate_left
            · unfold spn9_6; intro w hSw; (try dsimp only at hSw); go_simp; try (with_reducible rfl)
            try simp only [spn9_6, Act.put, List.setIfInBounds_toArray, List.set_cons_zero, List.set_cons_succ]
            refine wpAnyH_take (i := 7) (oi := spn9_7) (v := ?_) rfl (by as_aux_lemma => kernel_rfl) (by as_aux_lemma => kernel_rfl) (by as_aux_lemma => kernel_rfl) (fun _ _ _ h => h) (Or.inl ⟨by rfl, ?_⟩) (by assumption) ?_
            rotate_left
            · unfold spn9_7; intro w hSw; (try dsimp only at hSw); go_simp; try (with_reducible rfl)
            try simp only [spn9_7, Act.put, List.setIfInBounds_toArray, List.set_cons_zero, List.set_cons_succ]
            refine wpAnyH_take (i := 8) (oi := spn9_8) (v := ?_) rfl (by as_aux_lemma => kernel_rfl) (by as_aux_lemma => kernel_rfl) (by as_aux_lemma => kernel_rfl) (fun _ _ _ h => h) (Or.inl ⟨by rfl, ?_⟩) (by assumption) ?_
            rotate_left
            · unfold spn9_8; intro w hSw; (try dsimp only at hSw); go_simp; try (with_reducible rfl)
            try simp only [spn9_8, Act.put, List.setIfInBounds_toArray, List.set_cons_zero, List.set_cons_succ]
            refine wpAnyH_take (i := 9) (oi := spn9_9) (v := ?_) rfl (by as_aux_lemma => kernel_rfl) (by as_aux_lemma => kernel_rfl) (by as_aux_lemma => kernel_rfl) (fun _ _ _ h => h) (Or.inl ⟨by rfl, ?_⟩) (by assumption) ?_
            rotate_left
            · unfold spn9_9; intro w hSw; (try dsimp only at hSw); go_simp; try (with_reducible rfl)
            try simp only [spn9_9, Act.put, List.setIfInBounds_toArray, List.set_cons_zero, List.set_cons_succ]
            refine wpAnyH_take (i := 10) (oi := spn9_10) (v := ?_) rfl (by as_aux_lemma => kernel_rfl) (by as_aux_lemma => kernel_rfl) (by as_aux_lemma => kernel_rfl) (fun _ _ _ h => h) (Or.inl ⟨by rfl, ?_⟩) (by assumption) ?_
            rotate_left
            · unfold spn9_10; intro w hSw; (try dsimp only at hSw); go_simp; try (with_reducible rfl)
            try simp only [spn9_10, Act.put, List.setIfInBounds_toArray, List.set_cons_zero, List.set_cons_succ]
            refine wpAnyH_ready (rs := [11]) (by as_aux_lemma => kernel_rfl) (by simp) ?_
            refine (AllReadyH.cons (o := spn9_11) rfl (fun K hK => ?_) AllReadyH.nil)
            unfold spn9_11
            go_simp
            (go_at_call 15; (with_reducible refine (HIX.out _).mono ?_); rintro e z11 ⟨rfl, bl11⟩)
            try go_wp2_with fail
            refine hK.out _ _ ?_ (fun hHeld2 => ?_)
            · (with_reducible refine keep16 BA_30 BB_31 BU_32 BM_33 BX0 ?_; repeat (first | (with_reducible exact Below.refl _ _) | refine below_bx2 ?_ _ | refine below_drw ?_ | refine below_to ?_ (by assumption)))
            clear hK K hHeld
            have hHeld := hHeld2
            clear hHeld2
            try simp only [spn9_11, Act.put, List.setIfInBounds_toArray, List.set_cons_zero, List.set_cons_succ]
            as_aux_lemma =>
             refine wpAnyH_take (i := 12) (oi := spn9_12) (v := ?_) rfl (by as_aux_lemma => kernel_rfl) (by as_aux_lemma => kernel_rfl) (by as_aux_lemma => kernel_rfl) (fun _ _ _ h => h) (Or.inl ⟨by rfl, ?_⟩) (by assumption) ?_
             rotate_left
             · unfold spn9_12; intro w hSw; (try dsimp only at hSw); go_simp; try (with_reducible rfl)
             try simp only [spn9_12, Act.put, List.setIfInBounds_toArray, List.set_cons_zero, List.set_cons_succ]
             refine wpAnyH_take (i := 13) (oi := spn9_13) (v := ?_) rfl (by as_aux_lemma => kernel_rfl) (by as_aux_lemma => kernel_rfl) (by as_aux_lemma => kernel_rfl) (fun _ _ _ h => h) (Or.inl ⟨by rfl, ?_⟩) (by assumption) ?_
             rotate_left
             · unfold spn9_13; intro w hSw; (try dsimp only at hSw); go_simp; try (with_reducible rfl)
             try simp only [spn9_13, Act.put, List.setIfInBounds_toArray, List.set_cons_zero, List.set_cons_succ]
             refine wpAnyH_take (i := 14) (oi := spn9_14) (v := ?_) rfl (by as_aux_lemma => kernel_rfl) (by as_aux_lemma => kernel_rfl) (by as_aux_lemma => kernel_rfl) (fun _ _ _ h => h) (Or.inl ⟨by rfl, ?_⟩) (by assumption) ?_
             rotate_left
             · unfold spn9_14; intro w hSw; (try dsimp only at hSw); go_simp; try (with_reducible rfl)
             try simp only [spn9_14, Act.put, List.setIfInBounds_toArray, List.set_cons_zero, List.set_cons_succ]
             refine wpAnyH_take (i := 15) (oi := spn9_15) (v := ?_) rfl (by as_aux_lemma => kernel_rfl) (by as_aux_lemma => kernel_rfl) (by as_aux_lemma => kernel_rfl) (fun _ _ _ h => h) (Or.inl ⟨by rfl, ?_⟩) (by assumption) ?_
             rotate_left
             · unfold spn9_15; intro w hSw; (try dsimp only at hSw); go_simp; try (with_reducible rfl)
             try simp only [spn9_15, Act.put, List.setIfInBounds_toArray, List.set_cons_zero, List.set_cons_succ]
             refine wpAnyH_take (i := 16) (oi := spn9_16) (v := ?_) rfl (by as_aux_lemma => kernel_rfl) (by as_aux_lemma => kernel_rfl) (by as_aux_lemma => kernel_rfl) (fun _ _ _ h => h) (Or.inl ⟨by rfl, ?_⟩) (by assumption) ?_
             rotate_left
             · unfold spn9_16; intro w hSw; (try dsimp only at hSw); go_simp; try (with_reducible rfl)
             try simp only [spn9_16, Act.put, List.setIfInBounds_toArray, List.set_cons_zero, List.set_cons_succ]
             refine wpAnyH_take (i := 17) (oi := spn9_17) (v := ?_) rfl (by as_aux_lemma => kernel_rfl) (by as_aux_lemma => kernel_rfl) (by as_aux_lemma => kernel_rfl) (fun _ _ _ h => h) (Or.inl ⟨by rfl, ?_⟩) (by assumption) ?_
             rotate_left
             · unfold spn9_17; intro w hSw; (try dsimp only at hSw); go_simp; try (with_reducible rfl)
             try simp only [spn9_17, Act.put, List.setIfInBounds_toArray, List.set_cons_zero, List.set_cons_succ]
             refine wpAnyH_take (i := 18) (oi := spn9_18) (v := ?_) rfl (by as_aux_lemma => kernel_rfl) (by as_aux_lemma => kernel_rfl) (by as_aux_lemma => kernel_rfl) (fun _ _ _ h => h) (Or.inl ⟨by rfl, ?_⟩) (by assumption) ?_
             rotate_left
             · unfold spn9_18; intro w hSw; (try dsimp only at hSw); go_simp; try (with_reducible rfl)
             try simp only [spn9_18, Act.put, List.setIfInBounds_toArray, List.set_cons_zero, List.set_cons_succ]
             refine wpAnyH_take (i := 20) (oi := spn9_20) (v := ?_) rfl (by as_aux_lemma => kernel_rfl) (by as_aux_lemma => kernel_rfl) (by as_aux_lemma => kernel_rfl) (fun _ _ _ h => h) (Or.inl ⟨by rfl, ?_⟩) (by assumption) ?_
             rotate_left
             · unfold spn9_20; intro w hSw; (try dsimp only at hSw); go_simp; try (with_reducible rfl)
             try simp only [spn9_20, Act.put, List.setIfInBounds_toArray, List.set_cons_zero, List.set_cons_succ]
             refine wpAnyH_take (i := 21) (oi := spn9_21) (v := ?_) rfl (by as_aux_lemma => kernel_rfl) (by as_aux_lemma => kernel_rfl) (by as_aux_lemma => kernel_rfl) (fun _ _ _ h => h) (Or.inl ⟨by rfl, ?_⟩) (by assumption) ?_
             rotate_left
             · unfold spn9_21; intro w hSw; (try dsimp only at hSw); go_simp; try (with_reducible rfl)
             try simp only [spn9_21, Act.put, List.setIfInBounds_toArray, List.set_cons_zero, List.set_cons_succ]
             refine wpAnyH_ready (rs := [19]) (by as_aux_lemma => kernel_rfl) (by simp) ?_
             refine (AllReadyH.cons (o := spn9_19) rfl (fun K hK => ?_) AllReadyH.nil)
             unfold spn9_19
             go_simp
             (go_at_call 15; (with_reducible refine (HYM.out _).mono ?_); rintro e z19 ⟨rfl, bl19⟩)
             try go_wp2_with fail
             refine hK.out _ _ ?_ (fun hHeld2 => ?_)
             · (with_reducible refine keep16 BA_30 BB_31 BU_32 BM_33 BX0 ?_; repeat (first | (with_reducible exact Below.refl _ _) | refine below_bx2 ?_ _ | refine below_drw ?_ | refine below_to ?_ (by assumption)))
             clear hK K hHeld
             have hHeld := hHeld2
             clear hHeld2
             try simp only [spn9_19, Act.put, List.setIfInBounds_toArray, List.set_cons_zero, List.set_cons_succ]
             as_aux_lemma =>
              refine wpAnyH_ready (rs := [22]) (by as_aux_lemma => kernel_rfl) (by simp) ?_
              refine (AllReadyH.cons (o := spn9_22) rfl (fun K hK => ?_) AllReadyH.nil)
              unfold spn9_22
              go_simp
              (go_at_call 15; (with_reducible refine (HAU.out _).mono ?_); rintro e z22 ⟨rfl, bl22⟩)
              try go_wp2_with fail
              refine hK.out _ _ ?_ (fun hHeld2 => ?_)
              · (with_reducible refine keep16 BA_30 BB_31 BU_32 BM_33 BX0 ?_; repeat (first | (with_reducible exact Below.refl _ _) | refine below_bx2 ?_ _ | refine below_drw ?_ | refine below_to ?_ (by assumption)))
              clear hK K hHeld
              have hHeld := hHeld2
              clear hHeld2
              try simp only [spn9_22, Act.put, List.setIfInBounds_toArray, List.set_cons_zero, List.set_cons_succ]
              as_aux_lemma =>
               refine wpAnyH_take (i := 23) (oi := spn9_23) (v := ?_) rfl (by as_aux_lemma => kernel_rfl) (by as_aux_lemma => kernel_rfl) (by as_aux_lemma => kernel_rfl) (fun _ _ _ h => h) (Or.inl ⟨by rfl, ?_⟩) (by assumption) ?_
               rotate_left
               · unfold spn9_23; intro w hSw; (try dsimp only at hSw); go_simp; try (with_reducible rfl)
               try simp only [spn9_23, Act.put, List.setIfInBounds_toArray, List.set_cons_zero, List.set_cons_succ]
               refine wpAnyH_take (i := 24) (oi := spn9_24) (v := ?_) rfl (by as_aux_lemma => kernel_rfl) (by as_aux_lemma => kernel_rfl) (by as_aux_lemma => kernel_rfl) (fun _ _ _ h => h) (Or.inl ⟨by rfl, ?_⟩) (by assumption) ?_
               rotate_left
               · unfold spn9_24; intro w hSw; (try dsimp only at hSw); go_simp; try (with_reducible rfl)
               try simp only [spn9_24, Act.put, List.setIfInBounds_toArray, List.set_cons_zero, List.set_cons_succ]
               refine wpAnyH_take (i := 25) (oi := spn9_25) (v := ?_) rfl (by as_aux_lemma => kernel_rfl) (by as_aux_lemma => kernel_rfl) (by as_aux_lemma => kernel_rfl) (fun _ _ _ h => h) (Or.inl ⟨by rfl, ?_⟩) (by assumption) ?_
               rotate_left
               · unfold spn9_25; intro w hSw; (try dsimp only at hSw); go_simp; try (with_reducible rfl)
               try simp only [spn9_25, Act.put, List.setIfInBounds_toArray, List.set_cons_zero, List.set_cons_succ]
               refine wpAnyH_ready (rs := [26]) (by as_aux_lemma => kernel_rfl) (by simp) ?_
               refine (AllReadyH.cons (o := spn9_26) rfl (fun K hK => ?_) AllReadyH.nil)
               unfold spn9_26
               go_simp
               (go_at_call 15; (with_reducible refine (HBU.out _).mono ?_); rintro e z26 ⟨rfl, bl26⟩)
               try go_wp2_with fail
               refine hK.out _ _ ?_ (fun hHeld2 => ?_)
               · (with_reducible refine keep16 BA_30 BB_31 BU_32 BM_33 BX0 ?_; repeat (first | (with_reducible exact Below.refl _ _) | refine below_bx2 ?_ _ | refine below_drw ?_ | refine below_to ?_ (by assumption)))
               clear hK K hHeld
               have hHeld := hHeld2
               clear hHeld2
               try simp only [spn9_26, Act.put, List.setIfInBounds_toArray, List.set_cons_zero, List.set_cons_succ]
               as_aux_lemma =>
                refine wpAnyH_take (i := 27) (oi := spn9_27) (v := ?_) rfl (by as_aux_lemma => kernel_rfl) (by as_aux_lemma => kernel_rfl) (by as_aux_lemma => kernel_rfl) (fun _ _ _ h => h) (Or.inl ⟨by rfl, ?_⟩) (by assumption) ?_
                rotate_left
                · unfold spn9_27; intro w hSw; (try dsimp only at hSw); go_simp; try (with_reducible rfl)
                try simp only [spn9_27, Act.put, List.setIfInBounds_toArray, List.set_cons_zero, List.set_cons_succ]
                refine wpAnyH_take (i := 28) (oi := spn9_28) (v := ?_) rfl (by as_aux_lemma => kernel_rfl) (by as_aux_lemma => kernel_rfl) (by as_aux_lemma => kernel_rfl) (fun _ _ _ h => h) (Or.inl ⟨by rfl, ?_⟩) (by assumption) ?_
                rotate_left
                · unfold spn9_28; intro w hSw; (try dsimp only at hSw); go_simp; try (with_reducible rfl)
                try simp only [spn9_28, Act.put, List.setIfInBounds_toArray, List.set_cons_zero, List.set_cons_succ]
                refine wpAnyH_take (i := 29) (oi := spn9_29) (v := ?_) rfl (by as_aux_lemma => kernel_rfl) (by as_aux_lemma => kernel_rfl) (by as_aux_lemma => kernel_rfl) (fun _ _ _ h => h) (Or.inl ⟨by rfl, ?_⟩) (by assumption) ?_
                rotate_left
                · unfold spn9_29; intro w hSw; (try dsimp only at hSw); go_simp; try (with_reducible rfl)
                try simp only [spn9_29, Act.put, List.setIfInBounds_toArray, List.set_cons_zero, List.set_cons_succ]
                refine wpAnyH_take (i := 30) (oi := spn9_30) (v := ?_) rfl (by as_aux_lemma => kernel_rfl) (by as_aux_lemma => kernel_rfl) (by as_aux_lemma => kernel_rfl) (fun _ _ _ h => h) (Or.inl ⟨by rfl, ?_⟩) (by assumption) ?_
                rotate_left
                · unfold spn9_30; intro w hSw; (try dsimp only at hSw); go_simp; try (with_reducible rfl)
                try simp only [spn9_30, Act.put, List.setIfInBounds_toArray, List.set_cons_zero, List.set_cons_succ]
                refine wpAnyH_take (i := 31) (oi := spn9_31) (v := ?_) rfl (by as_aux_lemma => kernel_rfl) (by as_aux_lemma => kernel_rfl) (by as_aux_lemma => kernel_rfl) (fun _ _ _ h => h) (Or.inl ⟨by rfl, ?_⟩) (by assumption) ?_
                rotate_left
                · unfold spn9_31; intro w hSw; (try dsimp only at hSw); go_simp; try (with_reducible rfl)
                try simp only [spn9_31, Act.put, List.setIfInBounds_toArray, List.set_cons_zero, List.set_cons_succ]
                refine wpAnyH_take (i := 32) (oi := spn9_32) (v := ?_) rfl (by as_aux_lemma => kernel_rfl) (by as_aux_lemma => kernel_rfl) (by as_aux_lemma => kernel_rfl) (fun _ _ _ h => h) (Or.inl ⟨by rfl, ?_⟩) (by assumption) ?_
                rotate_left
                · unfold spn9_32; intro w hSw; (try dsimp only at hSw); go_simp; try (with_reducible rfl)
                try simp only [spn9_32, Act.put, List.setIfInBounds_toArray, List.set_cons_zero, List.set_cons_succ]
                refine wpAnyH_take (i := 33) (oi := spn9_33) (v := ?_) rfl (by as_aux_lemma => kernel_rfl) (by as_aux_lemma => kernel_rfl) (by as_aux_lemma => kernel_rfl) (fun _ _ _ h => h) (Or.inl ⟨by rfl, ?_⟩) (by assumption) ?_
                rotate_left
                · unfold spn9_33; intro w hSw; (try dsimp only at hSw); go_simp; try (with_reducible rfl)
                try simp only [spn9_33, Act.put, List.setIfInBounds_toArray, List.set_cons_zero, List.set_cons_succ]
                refine wpAnyH_take (i := 34) (oi := spn9_34) (v := ?_) rfl (by as_aux_lemma => kernel_rfl) (by as_aux_lemma => kernel_rfl) (by as_aux_lemma => kernel_rfl) (fun _ _ _ h => h) (Or.inl ⟨by rfl, ?_⟩) (by assumption) ?_
                rotate_left
                · unfold spn9_34; intro w hSw; (try dsimp only at hSw); go_simp; try (with_reducible rfl)
                try simp only [spn9_34, Act.put, List.setIfInBounds_toArray, List.set_cons_zero, List.set_cons_succ]
                refine wpAnyH_take (i := 35) (oi := spn9_35) (v := undef) rfl (by as_aux_lemma => kernel_rfl) (by as_aux_lemma => kernel_rfl) (by as_aux_lemma => kernel_rfl) (fun _ _ _ h => h) (Or.inr ⟨by rfl, rfl⟩) (by assumption) ?_
                try simp only [spn9_35, Act.put, List.setIfInBounds_toArray, List.set_cons_zero, List.set_cons_succ]
                refine wpAnyH_take (i := 36) (oi := spn9_36) (v := undef) rfl (by as_aux_lemma => kernel_rfl) (by as_aux_lemma => kernel_rfl) (by as_aux_lemma => kernel_rfl) (fun _ _ _ h => h) (Or.inr ⟨by rfl, rfl⟩) (by assumption) ?_
                try simp only [spn9_36, Act.put, List.setIfInBounds_toArray, List.set_cons_zero, List.set_cons_succ]
                refine wpAnyH_take (i := 37) (oi := spn9_37) (v := undef) rfl (by as_aux_lemma => kernel_rfl) (by as_aux_lemma => kernel_rfl) (by as_aux_lemma => kernel_rfl) (fun _ _ _ h => h) (Or.inr ⟨by rfl, rfl⟩) (by assumption) ?_
                try simp only [spn9_37, Act.put, List.setIfInBounds_toArray, List.set_cons_zero, List.set_cons_succ]
                refine wpAnyH_take (i := 38) (oi := spn9_38) (v := ?_) rfl (by as_aux_lemma => kernel_rfl) (by as_aux_lemma => kernel_rfl) (by as_aux_lemma => kernel_rfl) (fun _ _ _ h => h) (Or.inl ⟨by rfl, ?_⟩) (by assumption) ?_
                rotate_left
                · unfold spn9_38; intro w hSw; (try dsimp only at hSw); go_simp; try (with_reducible rfl)
                try simp only [spn9_38, Act.put, List.setIfInBounds_toArray, List.set_cons_zero, List.set_cons_succ]
                refine wpAnyH_take (i := 39) (oi := spn9_39) (v := ?_) rfl (by as_aux_lemma => kernel_rfl) (by as_aux_lemma => kernel_rfl) (by as_aux_lemma => kernel_rfl) (fun _ _ _ h => h) (Or.inl ⟨by rfl, ?_⟩) (by assumption) ?_
                rotate_left
                · unfold spn9_39; intro w hSw; (try dsimp only at hSw); go_simp; try (with_reducible rfl)
                try simp only [spn9_39, Act.put, List.setIfInBounds_toArray, List.set_cons_zero, List.set_cons_succ]
                refine wpAnyH_take (i := 40) (oi := spn9_40) (v := undef) rfl (by as_aux_lemma => kernel_rfl) (by as_aux_lemma => kernel_rfl) (by as_aux_lemma => kernel_rfl) (fun _ _ _ h => h) (Or.inr ⟨by rfl, rfl⟩) (by assumption) ?_
                try simp only [spn9_40, Act.put, List.setIfInBounds_toArray, List.set_cons_zero, List.set_cons_succ]
                refine wpAnyH_take (i := 41) (oi := spn9_41) (v := undef) rfl (by as_aux_lemma => kernel_rfl) (by as_aux_lemma => kernel_rfl) (by as_aux_lemma => kernel_rfl) (fun _ _ _ h => h) (Or.inr ⟨by rfl, rfl⟩) (by assumption) ?_
                try simp only [spn9_41, Act.put, List.setIfInBounds_toArray, List.set_cons_zero, List.set_cons_succ]
                refine wpAnyH_take (i := 42) (oi := spn9_42) (v := undef) rfl (by as_aux_lemma => kernel_rfl) (by as_aux_lemma => kernel_rfl) (by as_aux_lemma => kernel_rfl) (fun _ _ _ h => h) (Or.inr ⟨by rfl, rfl⟩) (by assumption) ?_
                try simp only [spn9_42, Act.put, List.setIfInBounds_toArray, List.set_cons_zero, List.set_cons_succ]
                refine wpAnyH_take (i := 43) (oi := spn9_43) (v := ?_) rfl (by as_aux_lemma => kernel_rfl) (by as_aux_lemma => kernel_rfl) (by as_aux_lemma => kernel_rfl) (fun _ _ _ h => h) (Or.inl ⟨by rfl, ?_⟩) (by assumption) ?_
                rotate_left
                · unfold spn9_43; intro w hSw; (try dsimp only at hSw); go_simp; try (with_reducible rfl)
                try simp only [spn9_43, Act.put, List.setIfInBounds_toArray, List.set_cons_zero, List.set_cons_succ]
                refine wpAnyH_take (i := 44) (oi := spn9_44) (v := ?_) rfl (by as_aux_lemma => kernel_rfl) (by as_aux_lemma => kernel_rfl) (by as_aux_lemma => kernel_rfl) (fun _ _ _ h => h) (Or.inl ⟨by rfl, ?_⟩) (by assumption) ?_
                rotate_left
                · unfold spn9_44; intro w hSw; (try dsimp only at hSw); go_simp; try (with_reducible rfl)
                try simp only [spn9_44, Act.put, List.setIfInBounds_toArray, List.set_cons_zero, List.set_cons_succ]
                as_aux_lemma =>
                 refine wpAnyH_done (by kernel_rfl) ?_ _
                 go_wp2_with fail
                 go_meet
                 refine ⟨by simp, ?_⟩
                 repeat (first | (with_reducible exact Below.refl _ _) | refine below_bx2 ?_ _ | refine below_drw ?_ | refine below_to ?_ (by assumption))
      | false =>
        have f00 := BA_30.cell0 (i := 0) (v := .int .i64 a1) rfl
        have f01 := BA_30.cell0 (i := 1) (v := .int .i64 b1) rfl
        have f02 := BA_30.cell0 (i := 2) (v := .int .i64 c1) rfl
        have f03 := BA_30.cell0 (i := 3) (v := .int .i64 d1) rfl
        have f10 := BB_31.cell0 (i := 0) (v := .int .i64 a2) rfl
        have f11 := BB_31.cell0 (i := 1) (v := .int .i64 b2) rfl
        have f12 := BB_31.cell0 (i := 2) (v := .int .i64 c2) rfl
        have f13 := BB_31.cell0 (i := 3) (v := .int .i64 d2) rfl
        have f20 := BU_32.cell0 (i := 0) (v := .int .i64 uN) rfl
        have f21 := BU_32.cell0 (i := 1) (v := .int .i64 uD) rfl
        have f30 := BM_33.cell0 (i := 0) (v := .int .i64 m1) rfl
        have f31 := BM_33.cell0 (i := 1) (v := .int .i64 m2) rfl
        have f32 := BM_33.cell0 (i := 2) (v := .int .i64 m3) rfl
        have f33 := BM_33.cell0 (i := 3) (v := .int .i64 m4) rfl
        have f40 := BX0.cell0 (i := 0) (v := .int .i64 x1) rfl
        have f41 := BX0.cell0 (i := 1) (v := .int .i64 x2) rfl
        refine wp_region_held_drew (S := (fun w' => w'.cell? ⟨ab, 0, none⟩ = some (.int .i64 a1) ∧ w'.cell? ⟨ab, 1, none⟩ = some (.int .i64 b1) ∧ w'.cell? ⟨ab, 2, none⟩ = some (.int .i64 c1) ∧ w'.cell? ⟨ab, 3, none⟩ = some (.int .i64 d1) ∧ w'.cell? ⟨bb, 0, none⟩ = some (.int .i64 a2) ∧ w'.cell? ⟨bb, 1, none⟩ = some (.int .i64 b2) ∧ w'.cell? ⟨bb, 2, none⟩ = some (.int .i64 c2) ∧ w'.cell? ⟨bb, 3, none⟩ = some (.int .i64 d2) ∧ w'.cell? ⟨ub, 0, none⟩ = some (.int .i64 uN) ∧ w'.cell? ⟨ub, 1, none⟩ = some (.int .i64 uD) ∧ w'.cell? ⟨mb, 0, none⟩ = some (.int .i64 m1) ∧ w'.cell? ⟨mb, 1, none⟩ = some (.int .i64 m2) ∧ w'.cell? ⟨mb, 2, none⟩ = some (.int .i64 m3) ∧ w'.cell? ⟨mb, 3, none⟩ = some (.int .i64 m4) ∧ w'.cell? ⟨xb, 0, none⟩ = some (.int .i64 x1) ∧ w'.cell? ⟨xb, 1, none⟩ = some (.int .i64 x2))) (by kernel_rfl) ?_ (fun hHeld => ?_)
        · (with_reducible refine keep16 BA_30 BB_31 BU_32 BM_33 BX0 ?_; repeat (first | (with_reducible exact Below.refl _ _) | refine below_bx2 ?_ _ | refine below_drw ?_ | refine below_to ?_ (by assumption)))
        refine wpAnyH_take (i := 0) (oi := spn9_0) (v := ?_) rfl (by as_aux_lemma => kernel_rfl) (by as_aux_lemma => kernel_rfl) (by as_aux_lemma => kernel_rfl) (fun _ _ _ h => h) (Or.inl ⟨by rfl, ?_⟩) (by assumption) ?_
        rotate_left
        · unfold spn9_0; intro w hSw; (try dsimp only at hSw); go_simp; try (with_reducible rfl)
        try simp only [spn9_0, Act.put, List.setIfInBounds_toArray, List.set_cons_zero, List.set_cons_succ]
        refine wpAnyH_ready (rs := [1]) (by as_aux_lemma => kernel_rfl) (by simp) ?_
        refine (AllReadyH.cons (o := spn9_1) rfl (fun K hK => ?_) AllReadyH.nil)
        unfold spn9_1
        go_simp
        (go_at_call 12; (with_reducible refine (HSA.out _).mono ?_); rintro e z1 ⟨rfl, bl1⟩)
        try go_wp2_with fail
        refine hK.out _ _ ?_ (fun hHeld2 => ?_)
        · (with_reducible refine keep16 BA_30 BB_31 BU_32 BM_33 BX0 ?_; repeat (first | (with_reducible exact Below.refl _ _) | refine below_bx2 ?_ _ | refine below_drw ?_ | refine below_to ?_ (by assumption)))
        clear hK K hHeld
        have hHeld := hHeld2
        clear hHeld2
        try simp only [spn9_1, Act.put, List.setIfInBounds_toArray, List.set_cons_zero, List.set_cons_succ]
        as_aux_lemma =>
         refine wpAnyH_take (i := 2) (oi := spn9_2) (v := ?_) rfl (by as_aux_lemma => kernel_rfl) (by as_aux_lemma => kernel_rfl) (by as_aux_lemma => kernel_rfl) (fun _ _ _ h => h) (Or.inl ⟨by rfl, ?_⟩) (by assumption) ?_
         rotate_left
         · unfold spn9_2; intro w hSw; (try dsimp only at hSw); go_simp; try (with_reducible rfl)
         try simp only [spn9_2, Act.put, List.setIfInBounds_toArray, List.set_cons_zero, List.set_cons_succ]
         refine wpAnyH_take (i := 3) (oi := spn9_3) (v := ?_) rfl (by as_aux_lemma => kernel_rfl) (by as_aux_lemma => kernel_rfl) (by as_aux_lemma => kernel_rfl) (fun _ _ _ h => h) (Or.inl ⟨by rfl, ?_⟩) (by assumption) ?_
         rotate_left
         · unfold spn9_3; intro w hSw; (try dsimp only at hSw); go_simp; try (with_reducible rfl)
         try simp only [spn9_3, Act.put, List.setIfInBounds_toArray, List.set_cons_zero, List.set_cons_succ]
         refine wpAnyH_take (i := 4) (oi := spn9_4) (v := ?_) rfl (by as_aux_lemma => kernel_rfl) (by as_aux_lemma => kernel_rfl) (by as_aux_lemma => kernel_rfl) (fun _ _ _ h => h) (Or.inl ⟨by rfl, ?_⟩) (by assumption) ?_
         rotate_left
         · unfold spn9_4; intro w hSw; (try dsimp only at hSw); go_simp; try (with_reducible rfl)
         try simp only [spn9_4, Act.put, List.setIfInBounds_toArray, List.set_cons_zero, List.set_cons_succ]
         refine wpAnyH_ready (rs := [5]) (by as_aux_lemma => kernel_rfl) (by simp) ?_
         refine (AllReadyH.cons (o := spn9_5) rfl (fun K hK => ?_) AllReadyH.nil)
         unfold spn9_5
         go_simp
         (go_at_call 12; (with_reducible refine (HSB.out _).mono ?_); rintro e z5 ⟨rfl, bl5⟩)
         try go_wp2_with fail
         refine hK.out _ _ ?_ (fun hHeld2 => ?_)
         · (with_reducible refine keep16 BA_30 BB_31 BU_32 BM_33 BX0 ?_; repeat (first | (with_reducible exact Below.refl _ _) | refine below_bx2 ?_ _ | refine below_drw ?_ | refine below_to ?_ (by assumption)))
         clear hK K hHeld
         have hHeld := hHeld2
         clear hHeld2
         try simp only [spn9_5, Act.put, List.setIfInBounds_toArray, List.set_cons_zero, List.set_cons_succ]
         as_aux_lemma =>
          refine wpAnyH_take (i := 6) (oi := spn9_6) (v := ?_) rfl (by as_aux_lemma => kernel_rfl) (by as_aux_lemma => kernel_rfl) (by as_aux_lemma => kernel_rfl) (fun _ _ _ h => h) (Or.inl ⟨by rfl, ?_⟩) (by assumption) ?_
          rotate_left
          · unfold spn9_6; intro w hSw; (try dsimp only at hSw); go_simp; try (with_reducible rfl)
          try simp only [spn9_6, Act.put, List.setIfInBounds_toArray, List.set_cons_zero, List.set_cons_succ]
          refine wpAnyH_take (i := 7) (oi := spn9_7) (v := ?_) rfl (by as_aux_lemma => kernel_rfl) (by as_aux_lemma => kernel_rfl) (by as_aux_lemma => kernel_rfl) (fun _ _ _ h => h) (Or.inl ⟨by rfl, ?_⟩) (by assumption) ?_
          rotate_left
          · unfold spn9_7; intro w hSw; (try dsimp only at hSw); go_simp; try (with_reducible rfl)
          try simp only [spn9_7, Act.put, List.setIfInBounds_toArray, List.set_cons_zero, List.set_cons_succ]
          refine wpAnyH_take (i := 8) (oi := spn9_8) (v := ?_) rfl (by as_aux_lemma => kernel_rfl) (by as_aux_lemma => kernel_rfl) (by as_aux_lemma => kernel_rfl) (fun _ _ _ h => h) (Or.inl ⟨by rfl, ?_⟩) (by assumption) ?_
          rotate_left
          · unfold spn9_8; intro w hSw; (try dsimp only at hSw); go_simp; try (with_reducible rfl)
          try simp only [spn9_8, Act.put, List.setIfInBounds_toArray, List.set_cons_zero, List.set_cons_succ]
          refine wpAnyH_take (i := 9) (oi := spn9_9) (v := ?_) rfl (by as_aux_lemma => kernel_rfl) (by as_aux_lemma => kernel_rfl) (by as_aux_lemma => kernel_rfl) (fun _ _ _ h => h) (Or.inl ⟨by rfl, ?_⟩) (by assumption) ?_
          rotate_left
          · unfold spn9_9; intro w hSw; (try dsimp only at hSw); go_simp; try (with_reducible rfl)
          try simp only [spn9_9, Act.put, List.setIfInBounds_toArray, List.set_cons_zero, List.set_cons_succ]
          refine wpAnyH_take (i := 10) (oi := spn9_10) (v := ?_) rfl (by as_aux_lemma => kernel_rfl) (by as_aux_lemma => kernel_rfl) (by as_aux_lemma => kernel_rfl) (fun _ _ _ h => h) (Or.inl ⟨by rfl, ?_⟩) (by assumption) ?_
          rotate_left
          · unfold spn9_10; intro w hSw; (try dsimp only at hSw); go_simp; try (with_reducible rfl)
          try simp only [spn9_10, Act.put, List.setIfInBounds_toArray, List.set_cons_zero, List.set_cons_succ]
          refine wpAnyH_ready (rs := [11]) (by as_aux_lemma => kernel_rfl) (by simp) ?_
          refine (AllReadyH.cons (o := spn9_11) rfl (fun K hK => ?_) AllReadyH.nil)
          unfold spn9_11
          go_simp
          (go_at_call 15; (with_reducible refine (HIX.out _).mono ?_); rintro e z11 ⟨rfl, bl11⟩)
          try go_wp2_with fail
          refine hK.out _ _ ?_ (fun hHeld2 => ?_)
          · (with_reducible refine keep16 BA_30 BB_31 BU_32 BM_33 BX0 ?_; repeat (first | (with_reducible exact Below.refl _ _) | refine below_bx2 ?_ _ | refine below_drw ?_ | refine below_to ?_ (by assumption)))
          clear hK K hHeld
          have hHeld := hHeld2
          clear hHeld2
          try simp only [spn9_11, Act.put, List.setIfInBounds_toArray, List.set_cons_zero, List.set_cons_succ]
          as_aux_lemma =>
           refine wpAnyH_take (i := 12) (oi := spn9_12) (v := ?_) rfl (by as_aux_lemma => kernel_rfl) (by as_aux_lemma => kernel_rfl) (by as_aux_lemma => kernel_rfl) (fun _ _ _ h => h) (Or.inl ⟨by rfl, ?_⟩) (by assumption) ?_
           rotate_left
           · unfold spn9_12; intro w hSw; (try dsimp only at hSw); go_simp; try (with_reducible rfl)
           try simp only [spn9_12, Act.put, List.setIfInBounds_toArray, List.set_cons_zero, List.set_cons_succ]
           refine wpAnyH_take (i := 13) (oi := spn9_13) (v := ?_) rfl (by as_aux_lemma => kernel_rfl) (by as_aux_lemma => kernel_rfl) (by as_aux_lemma => kernel_rfl) (fun _ _ _ h => h) (Or.inl ⟨by rfl, ?_⟩) (by assumption) ?_
           rotate_left
           · unfold spn9_13; intro w hSw; (try dsimp only at hSw); go_simp; try (with_reducible rfl)
           try simp only [spn9_13, Act.put, List.setIfInBounds_toArray, List.set_cons_zero, List.set_cons_succ]
           refine wpAnyH_take (i := 14) (oi := spn9_14) (v := ?_) rfl (by as_aux_lemma => kernel_rfl) (by as_aux_lemma => kernel_rfl) (by as_aux_lemma => kernel_rfl) (fun _ _ _ h => h) (Or.inl ⟨by rfl, ?_⟩) (by assumption) ?_
           rotate_left
           · unfold spn9_14; intro w hSw; (try dsimp only at hSw); go_simp; try (with_reducible rfl)
           try simp only [spn9_14, Act.put, List.setIfInBounds_toArray, List.set_cons_zero, List.set_cons_succ]
           refine wpAnyH_take (i := 15) (oi := spn9_15) (v := ?_) rfl (by as_aux_lemma => kernel_rfl) (by as_aux_lemma => kernel_rfl) (by as_aux_lemma => kernel_rfl) (fun _ _ _ h => h) (Or.inl ⟨by rfl, ?_⟩) (by assumption) ?_
           rotate_left
           · unfold spn9_15; intro w hSw; (try dsimp only at hSw); go_simp; try (with_reducible rfl)
           try simp only [spn9_15, Act.put, List.setIfInBounds_toArray, List.set_cons_zero, List.set_cons_succ]
           refine wpAnyH_take (i := 16) (oi := spn9_16) (v := ?_) rfl (by as_aux_lemma => kernel_rfl) (by as_aux_lemma => kernel_rfl) (by as_aux_lemma => kernel_rfl) (fun _ _ _ h => h) (Or.inl ⟨by rfl, ?_⟩) (by assumption) ?_
           rotate_left
           · unfold spn9_16; intro w hSw; (try dsimp only at hSw); go_simp; try (with_reducible rfl)
           try simp only [spn9_16, Act.put, List.setIfInBounds_toArray, List.set_cons_zero, List.set_cons_succ]
           refine wpAnyH_take (i := 17) (oi := spn9_17) (v := ?_) rfl (by as_aux_lemma => kernel_rfl) (by as_aux_lemma => kernel_rfl) (by as_aux_lemma => kernel_rfl) (fun _ _ _ h => h) (Or.inl ⟨by rfl, ?_⟩) (by assumption) ?_
           rotate_left
           · unfold spn9_17; intro w hSw; (try dsimp only at hSw); go_simp; try (with_reducible rfl)
           try simp only [spn9_17, Act.put, List.setIfInBounds_toArray, List.set_cons_zero, List.set_cons_succ]
           refine wpAnyH_take (i := 18) (oi := spn9_18) (v := ?_) rfl (by as_aux_lemma => kernel_rfl) (by as_aux_lemma => kernel_rfl) (by as_aux_lemma => kernel_rfl) (fun _ _ _ h => h) (Or.inl ⟨by rfl, ?_⟩) (by assumption) ?_
           rotate_left
           · unfold spn9_18; intro w hSw; (try dsimp only at hSw); go_simp; try (with_reducible rfl)
           try simp only [spn9_18, Act.put, List.setIfInBounds_toArray, List.set_cons_zero, List.set_cons_succ]
           refine wpAnyH_take (i := 20) (oi := spn9_20) (v := ?_) rfl (by as_aux_lemma => kernel_rfl) (by as_aux_lemma => kernel_rfl) (by as_aux_lemma => kernel_rfl) (fun _ _ _ h => h) (Or.inl ⟨by rfl, ?_⟩) (by assumption) ?_
           rotate_left
           · unfold spn9_20; intro w hSw; (try dsimp only at hSw); go_simp; try (with_reducible rfl)
           try simp only [spn9_20, Act.put, List.setIfInBounds_toArray, List.set_cons_zero, List.set_cons_succ]
           refine wpAnyH_take (i := 21) (oi := spn9_21) (v := ?_) rfl (by as_aux_lemma => kernel_rfl) (by as_aux_lemma => kernel_rfl) (by as_aux_lemma => kernel_rfl) (fun _ _ _ h => h) (Or.inl ⟨by rfl, ?_⟩) (by assumption) ?_
           rotate_left
           · unfold spn9_21; intro w hSw; (try dsimp only at hSw); go_simp; try (with_reducible rfl)
           try simp only [spn9_21, Act.put, List.setIfInBounds_toArray, List.set_cons_zero, List.set_cons_succ]
           refine wpAnyH_ready (rs := [19]) (by as_aux_lemma => kernel_rfl) (by simp) ?_
           refine (AllReadyH.cons (o := spn9_19) rfl (fun K hK => ?_) AllReadyH.nil)
           unfold spn9_19
           go_simp
           (go_at_call 15; (with_reducible refine (HYM.out _).mono ?_); rintro e z19 ⟨rfl, bl19⟩)
           try go_wp2_with fail
           refine hK.out _ _ ?_ (fun hHeld2 => ?_)
           · (with_reducible refine keep16 BA_30 BB_31 BU_32 BM_33 BX0 ?_; repeat (first | (with_reducible exact Below.refl _ _) | refine below_bx2 ?_ _ | refine below_drw ?_ | refine below_to ?_ (by assumption)))
           clear hK K hHeld
           have hHeld := hHeld2
           clear hHeld2
           try simp only [spn9_19, Act.put, List.setIfInBounds_toArray, List.set_cons_zero, List.set_cons_succ]
           as_aux_lemma =>
            refine wpAnyH_ready (rs := [22]) (by as_aux_lemma => kernel_rfl) (by simp) ?_
            refine (AllReadyH.cons (o := spn9_22) rfl (fun K hK => ?_) AllReadyH.nil)
            unfold spn9_22
            go_simp
            (go_at_call 15; (with_reducible refine (HAU.out _).mono ?_); rintro e z22 ⟨rfl, bl22⟩)
            try go_wp2_with fail
            refine hK.out _ _ ?_ (fun hHeld2 => ?_)
            · (with_reducible refine keep16 BA_30 BB_31 BU_32 BM_33 BX0 ?_; repeat (first | (with_reducible exact Below.refl _ _) | refine below_bx2 ?_ _ | refine below_drw ?_ | refine below_to ?_ (by assumption)))
            clear hK K hHeld
            have hHeld := hHeld2
            clear hHeld2
            try simp only [spn9_22, Act.put, List.setIfInBounds_toArray, List.set_cons_zero, List.set_cons_succ]
            as_aux_lemma =>
             refine wpAnyH_take (i := 23) (oi := spn9_23) (v := ?_) rfl (by as_aux_lemma => kernel_rfl) (by as_aux_lemma => kernel_rfl) (by as_aux_lemma => kernel_rfl) (fun _ _ _ h => h) (Or.inl ⟨by rfl, ?_⟩) (by assumption) ?_
             rotate_left
             · unfold spn9_23; intro w hSw; (try dsimp only at hSw); go_simp; try (with_reducible rfl)
             try simp only [spn9_23, Act.put, List.setIfInBounds_toArray, List.set_cons_zero, List.set_cons_succ]
             refine wpAnyH_take (i := 24) (oi := spn9_24) (v := undef) rfl (by as_aux_lemma => kernel_rfl) (by as_aux_lemma => kernel_rfl) (by as_aux_lemma => kernel_rfl) (fun _ _ _ h => h) (Or.inr ⟨by rfl, rfl⟩) (by assumption) ?_
             try simp only [spn9_24, Act.put, List.setIfInBounds_toArray, List.set_cons_zero, List.set_cons_succ]
             refine wpAnyH_take (i := 25) (oi := spn9_25) (v := undef) rfl (by as_aux_lemma => kernel_rfl) (by as_aux_lemma => kernel_rfl) (by as_aux_lemma => kernel_rfl) (fun _ _ _ h => h) (Or.inr ⟨by rfl, rfl⟩) (by assumption) ?_
             try simp only [spn9_25, Act.put, List.setIfInBounds_toArray, List.set_cons_zero, List.set_cons_succ]
             refine wpAnyH_take (i := 26) (oi := spn9_26) (v := undef) rfl (by as_aux_lemma => kernel_rfl) (by as_aux_lemma => kernel_rfl) (by as_aux_lemma => kernel_rfl) (fun _ _ _ h => h) (Or.inr ⟨by rfl, rfl⟩) (by assumption) ?_
             try simp only [spn9_26, Act.put, List.setIfInBounds_toArray, List.set_cons_zero, List.set_cons_succ]
             refine wpAnyH_take (i := 27) (oi := spn9_27) (v := ?_) rfl (by as_aux_lemma => kernel_rfl) (by as_aux_lemma => kernel_rfl) (by as_aux_lemma => kernel_rfl) (fun _ _ _ h => h) (Or.inl ⟨by rfl, ?_⟩) (by assumption) ?_
             rotate_left
             · unfold spn9_27; intro w hSw; (try dsimp only at hSw); go_simp; try (with_reducible rfl)
             try simp only [spn9_27, Act.put, List.setIfInBounds_toArray, List.set_cons_zero, List.set_cons_succ]
             refine wpAnyH_take (i := 28) (oi := spn9_28) (v := ?_) rfl (by as_aux_lemma => kernel_rfl) (by as_aux_lemma => kernel_rfl) (by as_aux_lemma => kernel_rfl) (fun _ _ _ h => h) (Or.inl ⟨by rfl, ?_⟩) (by assumption) ?_
             rotate_left
             · unfold spn9_28; intro w hSw; (try dsimp only at hSw); go_simp; try (with_reducible rfl)
             try simp only [spn9_28, Act.put, List.setIfInBounds_toArray, List.set_cons_zero, List.set_cons_succ]
             refine wpAnyH_take (i := 29) (oi := spn9_29) (v := ?_) rfl (by as_aux_lemma => kernel_rfl) (by as_aux_lemma => kernel_rfl) (by as_aux_lemma => kernel_rfl) (fun _ _ _ h => h) (Or.inl ⟨by rfl, ?_⟩) (by assumption) ?_
             rotate_left
             · unfold spn9_29; intro w hSw; (try dsimp only at hSw); go_simp; try (with_reducible rfl)
             try simp only [spn9_29, Act.put, List.setIfInBounds_toArray, List.set_cons_zero, List.set_cons_succ]
             refine wpAnyH_take (i := 30) (oi := spn9_30) (v := ?_) rfl (by as_aux_lemma => kernel_rfl) (by as_aux_lemma => kernel_rfl) (by as_aux_lemma => kernel_rfl) (fun _ _ _ h => h) (Or.inl ⟨by rfl, ?_⟩) (by assumption) ?_
             rotate_left
             · unfold spn9_30; intro w hSw; (try dsimp only at hSw); go_simp; try (with_reducible rfl)
             try simp only [spn9_30, Act.put, List.setIfInBounds_toArray, List.set_cons_zero, List.set_cons_succ]
             refine wpAnyH_take (i := 31) (oi := spn9_31) (v := ?_) rfl (by as_aux_lemma => kernel_rfl) (by as_aux_lemma => kernel_rfl) (by as_aux_lemma => kernel_rfl) (fun _ _ _ h => h) (Or.inl ⟨by rfl, ?_⟩) (by assumption) ?_
             rotate_left
             · unfold spn9_31; intro w hSw; (try dsimp only at hSw); go_simp; try (with_reducible rfl)
             try simp only [spn9_31, Act.put, List.setIfInBounds_toArray, List.set_cons_zero, List.set_cons_succ]
             refine wpAnyH_take (i := 32) (oi := spn9_32) (v := ?_) rfl (by as_aux_lemma => kernel_rfl) (by as_aux_lemma => kernel_rfl) (by as_aux_lemma => kernel_rfl) (fun _ _ _ h => h) (Or.inl ⟨by rfl, ?_⟩) (by assumption) ?_
             rotate_left
             · unfold spn9_32; intro w hSw; (try dsimp only at hSw); go_simp; try (with_reducible rfl)
             try simp only [spn9_32, Act.put, List.setIfInBounds_toArray, List.set_cons_zero, List.set_cons_succ]
             refine wpAnyH_take (i := 33) (oi := spn9_33) (v := ?_) rfl (by as_aux_lemma => kernel_rfl) (by as_aux_lemma => kernel_rfl) (by as_aux_lemma => kernel_rfl) (fun _ _ _ h => h) (Or.inl ⟨by rfl, ?_⟩) (by assumption) ?_
             rotate_left
             · unfold spn9_33; intro w hSw; (try dsimp only at hSw); go_simp; try (with_reducible rfl)
             try simp only [spn9_33, Act.put, List.setIfInBounds_toArray, List.set_cons_zero, List.set_cons_succ]
             refine wpAnyH_take (i := 34) (oi := spn9_34) (v := ?_) rfl (by as_aux_lemma => kernel_rfl) (by as_aux_lemma => kernel_rfl) (by as_aux_lemma => kernel_rfl) (fun _ _ _ h => h) (Or.inl ⟨by rfl, ?_⟩) (by assumption) ?_
             rotate_left
             · unfold spn9_34; intro w hSw; (try dsimp only at hSw); go_simp; try (with_reducible rfl)
             try simp only [spn9_34, Act.put, List.setIfInBounds_toArray, List.set_cons_zero, List.set_cons_succ]
             refine wpAnyH_take (i := 35) (oi := spn9_35) (v := undef) rfl (by as_aux_lemma => kernel_rfl) (by as_aux_lemma => kernel_rfl) (by as_aux_lemma => kernel_rfl) (fun _ _ _ h => h) (Or.inr ⟨by rfl, rfl⟩) (by assumption) ?_
             try simp only [spn9_35, Act.put, List.setIfInBounds_toArray, List.set_cons_zero, List.set_cons_succ]
             refine wpAnyH_take (i := 36) (oi := spn9_36) (v := undef) rfl (by as_aux_lemma => kernel_rfl) (by as_aux_lemma => kernel_rfl) (by as_aux_lemma => kernel_rfl) (fun _ _ _ h => h) (Or.inr ⟨by rfl, rfl⟩) (by assumption) ?_
             try simp only [spn9_36, Act.put, List.setIfInBounds_toArray, List.set_cons_zero, List.set_cons_succ]
             refine wpAnyH_take (i := 37) (oi := spn9_37) (v := undef) rfl (by as_aux_lemma => kernel_rfl) (by as_aux_lemma => kernel_rfl) (by as_aux_lemma => kernel_rfl) (fun _ _ _ h => h) (Or.inr ⟨by rfl, rfl⟩) (by assumption) ?_
             try simp only [spn9_37, Act.put, List.setIfInBounds_toArray, List.set_cons_zero, List.set_cons_succ]
             refine wpAnyH_take (i := 38) (oi := spn9_38) (v := ?_) rfl (by as_aux_lemma => kernel_rfl) (by as_aux_lemma => kernel_rfl) (by as_aux_lemma => kernel_rfl) (fun _ _ _ h => h) (Or.inl ⟨by rfl, ?_⟩) (by assumption) ?_
             rotate_left
             · unfold spn9_38; intro w hSw; (try dsimp only at hSw); go_simp; try (with_reducible rfl)
             try simp only [spn9_38, Act.put, List.setIfInBounds_toArray, List.set_cons_zero, List.set_cons_succ]
             refine wpAnyH_take (i := 39) (oi := spn9_39) (v := ?_) rfl (by as_aux_lemma => kernel_rfl) (by as_aux_lemma => kernel_rfl) (by as_aux_lemma => kernel_rfl) (fun _ _ _ h => h) (Or.inl ⟨by rfl, ?_⟩) (by assumption) ?_
             rotate_left
             · unfold spn9_39; intro w hSw; (try dsimp only at hSw); go_simp; try (with_reducible rfl)
             try simp only [spn9_39, Act.put, List.setIfInBounds_toArray, List.set_cons_zero, List.set_cons_succ]
             refine wpAnyH_take (i := 40) (oi := spn9_40) (v := undef) rfl (by as_aux_lemma => kernel_rfl) (by as_aux_lemma => kernel_rfl) (by as_aux_lemma => kernel_rfl) (fun _ _ _ h => h) (Or.inr ⟨by rfl, rfl⟩) (by assumption) ?_
             try simp only [spn9_40, Act.put, List.setIfInBounds_toArray, List.set_cons_zero, List.set_cons_succ]
             refine wpAnyH_take (i := 41) (oi := spn9_41) (v := undef) rfl (by as_aux_lemma => kernel_rfl) (by as_aux_lemma => kernel_rfl) (by as_aux_lemma => kernel_rfl) (fun _ _ _ h => h) (Or.inr ⟨by rfl, rfl⟩) (by assumption) ?_
             try simp only [spn9_41, Act.put, List.setIfInBounds_toArray, List.set_cons_zero, List.set_cons_succ]
             refine wpAnyH_take (i := 42) (oi := spn9_42) (v := undef) rfl (by as_aux_lemma => kernel_rfl) (by as_aux_lemma => kernel_rfl) (by as_aux_lemma => kernel_rfl) (fun _ _ _ h => h) (Or.inr ⟨by rfl, rfl⟩) (by assumption) ?_
             try simp only [spn9_42, Act.put, List.setIfInBounds_toArray, List.set_cons_zero, List.set_cons_succ]
             refine wpAnyH_take (i := 43) (oi := spn9_43) (v := ?_) rfl (by as_aux_lemma => kernel_rfl) (by as_aux_lemma => kernel_rfl) (by as_aux_lemma => kernel_rfl) (fun _ _ _ h => h) (Or.inl ⟨by rfl, ?_⟩) (by assumption) ?_
             rotate_left
             · unfold spn9_43; intro w hSw; (try dsimp only at hSw); go_simp; try (with_reducible rfl)
             try simp only [spn9_43, Act.put, List.setIfInBounds_toArray, List.set_cons_zero, List.set_cons_succ]
             as_aux_lemma =>
              refine wpAnyH_take (i := 44) (oi := spn9_44) (v := ?_) rfl (by as_aux_lemma => kernel_rfl) (by as_aux_lemma => kernel_rfl) (by as_aux_lemma => kernel_rfl) (fun _ _ _ h => h) (Or.inl ⟨by rfl, ?_⟩) (by assumption) ?_
              rotate_left
              · unfold spn9_44; intro w hSw; (try dsimp only at hSw); go_simp; try (with_reducible rfl)
              try simp only [spn9_44, Act.put, List.setIfInBounds_toArray, List.set_cons_zero, List.set_cons_succ]
              refine wpAnyH_done (by kernel_rfl) ?_ _
              go_wp2_with fail
              go_meet
              refine ⟨by simp, ?_⟩
              repeat (first | (with_reducible exact Below.refl _ _) | refine below_bx2 ?_ _ | refine below_drw ?_ | refine below_to ?_ (by assumption))
    | false =>
      cases p with
      | true =>
        cases r with
        | true => exact (HMN.out (by simp) (by simp) (by simp)).elim
        | false =>
          have f00 := BA_30.cell0 (i := 0) (v := .int .i64 a1) rfl
          have f01 := BA_30.cell0 (i := 1) (v := .int .i64 b1) rfl
          have f02 := BA_30.cell0 (i := 2) (v := .int .i64 c1) rfl
          have f03 := BA_30.cell0 (i := 3) (v := .int .i64 d1) rfl
          have f10 := BB_31.cell0 (i := 0) (v := .int .i64 a2) rfl
          have f11 := BB_31.cell0 (i := 1) (v := .int .i64 b2) rfl
          have f12 := BB_31.cell0 (i := 2) (v := .int .i64 c2) rfl
          have f13 := BB_31.cell0 (i := 3) (v := .int .i64 d2) rfl
          have f20 := BU_32.cell0 (i := 0) (v := .int .i64 uN) rfl
          have f21 := BU_32.cell0 (i := 1) (v := .int .i64 uD) rfl
          have f30 := BM_33.cell0 (i := 0) (v := .int .i64 m1) rfl
          have f31 := BM_33.cell0 (i := 1) (v := .int .i64 m2) rfl
          have f32 := BM_33.cell0 (i := 2) (v := .int .i64 m3) rfl
          have f33 := BM_33.cell0 (i := 3) (v := .int .i64 m4) rfl
          have f40 := BX0.cell0 (i := 0) (v := .int .i64 x1) rfl
          have f41 := BX0.cell0 (i := 1) (v := .int .i64 x2) rfl
          refine wp_region_held_drew (S := (fun w' => w'.cell? ⟨ab, 0, none⟩ = some (.int .i64 a1) ∧ w'.cell? ⟨ab, 1, none⟩ = some (.int .i64 b1) ∧ w'.cell? ⟨ab, 2, none⟩ = some (.int .i64 c1) ∧ w'.cell? ⟨ab, 3, none⟩ = some (.int .i64 d1) ∧ w'.cell? ⟨bb, 0, none⟩ = some (.int .i64 a2) ∧ w'.cell? ⟨bb, 1, none⟩ = some (.int .i64 b2) ∧ w'.cell? ⟨bb, 2, none⟩ = some (.int .i64 c2) ∧ w'.cell? ⟨bb, 3, none⟩ = some (.int .i64 d2) ∧ w'.cell? ⟨ub, 0, none⟩ = some (.int .i64 uN) ∧ w'.cell? ⟨ub, 1, none⟩ = some (.int .i64 uD) ∧ w'.cell? ⟨mb, 0, none⟩ = some (.int .i64 m1) ∧ w'.cell? ⟨mb, 1, none⟩ = some (.int .i64 m2) ∧ w'.cell? ⟨mb, 2, none⟩ = some (.int .i64 m3) ∧ w'.cell? ⟨mb, 3, none⟩ = some (.int .i64 m4) ∧ w'.cell? ⟨xb, 0, none⟩ = some (.int .i64 x1) ∧ w'.cell? ⟨xb, 1, none⟩ = some (.int .i64 x2))) (by kernel_rfl) ?_ (fun hHeld => ?_)
          · (with_reducible refine keep16 BA_30 BB_31 BU_32 BM_33 BX0 ?_; repeat (first | (with_reducible exact Below.refl _ _) | refine below_bx2 ?_ _ | refine below_drw ?_ | refine below_to ?_ (by assumption)))
          refine wpAnyH_take (i := 0) (oi := spn9_0) (v := ?_) rfl (by as_aux_lemma => kernel_rfl) (by as_aux_lemma => kernel_rfl) (by as_aux_lemma => kernel_rfl) (fun _ _ _ h => h) (Or.inl ⟨by rfl, ?_⟩) (by assumption) ?_
          rotate_left
          · unfold spn9_0; intro w hSw; (try dsimp only at hSw); go_simp; try (with_reducible rfl)
          try simp only [spn9_0, Act.put, List.setIfInBounds_toArray, List.set_cons_zero, List.set_cons_succ]
          refine wpAnyH_ready (rs := [1]) (by as_aux_lemma => kernel_rfl) (by simp) ?_
          refine (AllReadyH.cons (o := spn9_1) rfl (fun K hK => ?_) AllReadyH.nil)
          unfold spn9_1
          go_simp
          (go_at_call 12; (with_reducible refine (HSA.out _).mono ?_); rintro e z1 ⟨rfl, bl1⟩)
          try go_wp2_with fail
          refine hK.out _ _ ?_ (fun hHeld2 => ?_)
          · (with_reducible refine keep16 BA_30 BB_31 BU_32 BM_33 BX0 ?_; repeat (first | (with_reducible exact Below.refl _ _) | refine below_bx2 ?_ _ | refine below_drw ?_ | refine below_to ?_ (by assumption)))
          clear hK K hHeld
          have hHeld := hHeld2
          clear hHeld2
          try simp only [spn9_1, Act.put, List.setIfInBounds_toArray, List.set_cons_zero, List.set_cons_succ]
          as_aux_lemma =>
           refine wpAnyH_take (i := 2) (oi := spn9_2) (v := ?_) rfl (by as_aux_lemma => kernel_rfl) (by as_aux_lemma => kernel_rfl) (by as_aux_lemma => kernel_rfl) (fun _ _ _ h => h) (Or.inl ⟨by rfl, ?_⟩) (by assumption) ?_
           rotate_left
           · unfold spn9_2; intro w hSw; (try dsimp only at hSw); go_simp; try (with_reducible rfl)
           try simp only [spn9_2, Act.put, List.setIfInBounds_toArray, List.set_cons_zero, List.set_cons_succ]
           refine wpAnyH_take (i := 3) (oi := spn9_3) (v := ?_) rfl (by as_aux_lemma => kernel_rfl) (by as_aux_lemma => kernel_rfl) (by as_aux_lemma => kernel_rfl) (fun _ _ _ h => h) (Or.inl ⟨by rfl, ?_⟩) (by assumption) ?_
           rotate_left
           · unfold spn9_3; intro w hSw; (try dsimp only at hSw); go_simp; try (with_reducible rfl)
           try simp only [spn9_3, Act.put, List.setIfInBounds_toArray, List.set_cons_zero, List.set_cons_succ]
           refine wpAnyH_take (i := 4) (oi := spn9_4) (v := ?_) rfl (by as_aux_lemma => kernel_rfl) (by as_aux_lemma => kernel_rfl) (by as_aux_lemma => kernel_rfl) (fun _ _ _ h => h) (Or.inl ⟨by rfl, ?_⟩) (by assumption) ?_
           rotate_left
           · unfold spn9_4; intro w hSw; (try dsimp only at hSw); go_simp; try (with_reducible rfl)
           try simp only [spn9_4, Act.put, List.setIfInBounds_toArray, List.set_cons_zero, List.set_cons_succ]
           refine wpAnyH_ready (rs := [5]) (by as_aux_lemma => kernel_rfl) (by simp) ?_
           refine (AllReadyH.cons (o := spn9_5) rfl (fun K hK => ?_) AllReadyH.nil)
           unfold spn9_5
           go_simp
           (go_at_call 12; (with_reducible refine (HSB.out _).mono ?_); rintro e z5 ⟨rfl, bl5⟩)
           try go_wp2_with fail
           refine hK.out _ _ ?_ (fun hHeld2 => ?_)
           · (with_reducible refine keep16 BA_30 BB_31 BU_32 BM_33 BX0 ?_; repeat (first | (with_reducible exact Below.refl _ _) | refine below_bx2 ?_ _ | refine below_drw ?_ | refine below_to ?_ (by assumption)))
           clear hK K hHeld
           have hHeld := hHeld2
           clear hHeld2
           try simp only [spn9_5, Act.put, List.setIfInBounds_toArray, List.set_cons_zero, List.set_cons_succ]
           as_aux_lemma =>
            refine wpAnyH_take (i := 6) (oi := spn9_6) (v := ?_) rfl (by as_aux_lemma => kernel_rfl) (by as_aux_lemma => kernel_rfl) (by as_aux_lemma => kernel_rfl) (fun _ _ _ h => h) (Or.inl ⟨by rfl, ?_⟩) (by assumption) ?_
            rotate_left
            · unfold spn9_6; intro w hSw; (try dsimp only at hSw); go_simp; try (with_reducible rfl)
            try simp only [spn9_6, Act.put, List.setIfInBounds_toArray, List.set_cons_zero, List.set_cons_succ]
            refine wpAnyH_take (i := 7) (oi := spn9_7) (v := ?_) rfl (by as_aux_lemma => kernel_rfl) (by as_aux_lemma => kernel_rfl) (by as_aux_lemma => kernel_rfl) (fun _ _ _ h => h) (Or.inl ⟨by rfl, ?_⟩) (by assumption) ?_
            rotate_left
            · unfold spn9_7; intro w hSw; (try dsimp only at hSw); go_simp; try (with_reducible rfl)
            try simp only [spn9_7, Act.put, List.setIfInBounds_toArray, List.set_cons_zero, List.set_cons_succ]
            refine wpAnyH_take (i := 8) (oi := spn9_8) (v := ?_) rfl (by as_aux_lemma => kernel_rfl) (by as_aux_lemma => kernel_rfl) (by as_aux_lemma => kernel_rfl) (fun _ _ _ h => h) (Or.inl ⟨by rfl, ?_⟩) (by assumption) ?_
            rotate_left
            · unfold spn9_8; intro w hSw; (try dsimp only at hSw); go_simp; try (with_reducible rfl)
            try simp only [spn9_8, Act.put, List.setIfInBounds_toArray, List.set_cons_zero, List.set_cons_succ]
            refine wpAnyH_take (i := 9) (oi := spn9_9) (v := ?_) rfl (by as_aux_lemma => kernel_rfl) (by as_aux_lemma => kernel_rfl) (by as_aux_lemma => kernel_rfl) (fun _ _ _ h => h) (Or.inl ⟨by rfl, ?_⟩) (by assumption) ?_
            rotate_left
            · unfold spn9_9; intro w hSw; (try dsimp only at hSw); go_simp; try (with_reducible rfl)
            try simp only [spn9_9, Act.put, List.setIfInBounds_toArray, List.set_cons_zero, List.set_cons_succ]
            refine wpAnyH_take (i := 10) (oi := spn9_10) (v := ?_) rfl (by as_aux_lemma => kernel_rfl) (by as_aux_lemma => kernel_rfl) (by as_aux_lemma => kernel_rfl) (fun _ _ _ h => h) (Or.inl ⟨by rfl, ?_⟩) (by assumption) ?_
            rotate_left
            · unfold spn9_10; intro w hSw; (try dsimp only at hSw); go_simp; try (with_reducible rfl)
            try simp only [spn9_10, Act.put, List.setIfInBounds_toArray, List.set_cons_zero, List.set_cons_succ]
            refine wpAnyH_ready (rs := [11]) (by as_aux_lemma => kernel_rfl) (by simp) ?_
            refine (AllReadyH.cons (o := spn9_11) rfl (fun K hK => ?_) AllReadyH.nil)
            unfold spn9_11
            go_simp
            (go_at_call 15; (with_reducible refine (HIX.out _).mono ?_); rintro e z11 ⟨rfl, bl11⟩)
            try go_wp2_with fail
            refine hK.out _ _ ?_ (fun hHeld2 => ?_)
            · (with_reducible refine keep16 BA_30 BB_31 BU_32 BM_33 BX0 ?_; repeat (first | (with_reducible exact Below.refl _ _) | refine below_bx2 ?_ _ | refine below_drw ?_ | refine below_to ?_ (by assumption)))
            clear hK K hHeld
            have hHeld := hHeld2
            clear hHeld2
            try simp only [spn9_11, Act.put, List.setIfInBounds_toArray, List.set_cons_zero, List.set_cons_succ]
            as_aux_lemma =>
             refine wpAnyH_take (i := 12) (oi := spn9_12) (v := ?_) rfl (by as_aux_lemma => kernel_rfl) (by as_aux_lemma => kernel_rfl) (by as_aux_lemma => kernel_rfl) (fun _ _ _ h => h) (Or.inl ⟨by rfl, ?_⟩) (by assumption) ?_
             rotate_left
             · unfold spn9_12; intro w hSw; (try dsimp only at hSw); go_simp; try (with_reducible rfl)
             try simp only [spn9_12, Act.put, List.setIfInBounds_toArray, List.set_cons_zero, List.set_cons_succ]
             refine wpAnyH_take (i := 13) (oi := spn9_13) (v := ?_) rfl (by as_aux_lemma => kernel_rfl) (by as_aux_lemma => kernel_rfl) (by as_aux_lemma => kernel_rfl) (fun _ _ _ h => h) (Or.inl ⟨by rfl, ?_⟩) (by assumption) ?_
             rotate_left
             · unfold spn9_13; intro w hSw; (try dsimp only at hSw); go_simp; try (with_reducible rfl)
             try simp only [spn9_13, Act.put, List.setIfInBounds_toArray, List.set_cons_zero, List.set_cons_succ]
             refine wpAnyH_take (i := 14) (oi := spn9_14) (v := ?_) rfl (by as_aux_lemma => kernel_rfl) (by as_aux_lemma => kernel_rfl) (by as_aux_lemma => kernel_rfl) (fun _ _ _ h => h) (Or.inl ⟨by rfl, ?_⟩) (by assumption) ?_
             rotate_left
             · unfold spn9_14; intro w hSw; (try dsimp only at hSw); go_simp; try (with_reducible rfl)
             try simp only [spn9_14, Act.put, List.setIfInBounds_toArray, List.set_cons_zero, List.set_cons_succ]
             refine wpAnyH_take (i := 15) (oi := spn9_15) (v := ?_) rfl (by as_aux_lemma => kernel_rfl) (by as_aux_lemma => kernel_rfl) (by as_aux_lemma => kernel_rfl) (fun _ _ _ h => h) (Or.inl ⟨by rfl, ?_⟩) (by assumption) ?_
             rotate_left
             · unfold spn9_15; intro w hSw; (try dsimp only at hSw); go_simp; try (with_reducible rfl)
             try simp only [spn9_15, Act.put, List.setIfInBounds_toArray, List.set_cons_zero, List.set_cons_succ]
             refine wpAnyH_take (i := 16) (oi := spn9_16) (v := ?_) rfl (by as_aux_lemma => kernel_rfl) (by as_aux_lemma => kernel_rfl) (by as_aux_lemma => kernel_rfl) (fun _ _ _ h => h) (Or.inl ⟨by rfl, ?_⟩) (by assumption) ?_
             rotate_left
             · unfold spn9_16; intro w hSw; (try dsimp only at hSw); go_simp; try (with_reducible rfl)
             try simp only [spn9_16, Act.put, List.setIfInBounds_toArray, List.set_cons_zero, List.set_cons_succ]
             refine wpAnyH_take (i := 17) (oi := spn9_17) (v := undef) rfl (by as_aux_lemma => kernel_rfl) (by as_aux_lemma => kernel_rfl) (by as_aux_lemma => kernel_rfl) (fun _ _ _ h => h) (Or.inr ⟨by rfl, rfl⟩) (by assumption) ?_
             try simp only [spn9_17, Act.put, List.setIfInBounds_toArray, List.set_cons_zero, List.set_cons_succ]
             refine wpAnyH_take (i := 18) (oi := spn9_18) (v := undef) rfl (by as_aux_lemma => kernel_rfl) (by as_aux_lemma => kernel_rfl) (by as_aux_lemma => kernel_rfl) (fun _ _ _ h => h) (Or.inr ⟨by rfl, rfl⟩) (by assumption) ?_
             try simp only [spn9_18, Act.put, List.setIfInBounds_toArray, List.set_cons_zero, List.set_cons_succ]
             refine wpAnyH_take (i := 19) (oi := spn9_19) (v := undef) rfl (by as_aux_lemma => kernel_rfl) (by as_aux_lemma => kernel_rfl) (by as_aux_lemma => kernel_rfl) (fun _ _ _ h => h) (Or.inr ⟨by rfl, rfl⟩) (by assumption) ?_
             try simp only [spn9_19, Act.put, List.setIfInBounds_toArray, List.set_cons_zero, List.set_cons_succ]
             refine wpAnyH_take (i := 20) (oi := spn9_20) (v := undef) rfl (by as_aux_lemma => kernel_rfl) (by as_aux_lemma => kernel_rfl) (by as_aux_lemma => kernel_rfl) (fun _ _ _ h => h) (Or.inr ⟨by rfl, rfl⟩) (by assumption) ?_
             try simp only [spn9_20, Act.put, List.setIfInBounds_toArray, List.set_cons_zero, List.set_cons_succ]
             refine wpAnyH_take (i := 21) (oi := spn9_21) (v := undef) rfl (by as_aux_lemma => kernel_rfl) (by as_aux_lemma => kernel_rfl) (by as_aux_lemma => kernel_rfl) (fun _ _ _ h => h) (Or.inr ⟨by rfl, rfl⟩) (by assumption) ?_
             try simp only [spn9_21, Act.put, List.setIfInBounds_toArray, List.set_cons_zero, List.set_cons_succ]
             refine wpAnyH_take (i := 22) (oi := spn9_22) (v := undef) rfl (by as_aux_lemma => kernel_rfl) (by as_aux_lemma => kernel_rfl) (by as_aux_lemma => kernel_rfl) (fun _ _ _ h => h) (Or.inr ⟨by rfl, rfl⟩) (by assumption) ?_
             try simp only [spn9_22, Act.put, List.setIfInBounds_toArray, List.set_cons_zero, List.set_cons_succ]
             refine wpAnyH_take (i := 23) (oi := spn9_23) (v := undef) rfl (by as_aux_lemma => kernel_rfl) (by as_aux_lemma => kernel_rfl) (by as_aux_lemma => kernel_rfl) (fun _ _ _ h => h) (Or.inr ⟨by rfl, rfl⟩) (by assumption) ?_
             try simp only [spn9_23, Act.put, List.setIfInBounds_toArray, List.set_cons_zero, List.set_cons_succ]
             refine wpAnyH_take (i := 24) (oi := spn9_24) (v := undef) rfl (by as_aux_lemma => kernel_rfl) (by as_aux_lemma => kernel_rfl) (by as_aux_lemma => kernel_rfl) (fun _ _ _ h => h) (Or.inr ⟨by rfl, rfl⟩) (by assumption) ?_
             try simp only [spn9_24, Act.put, List.setIfInBounds_toArray, List.set_cons_zero, List.set_cons_succ]
             refine wpAnyH_take (i := 25) (oi := spn9_25) (v := undef) rfl (by as_aux_lemma => kernel_rfl) (by as_aux_lemma => kernel_rfl) (by as_aux_lemma => kernel_rfl) (fun _ _ _ h => h) (Or.inr ⟨by rfl, rfl⟩) (by assumption) ?_
             try simp only [spn9_25, Act.put, List.setIfInBounds_toArray, List.set_cons_zero, List.set_cons_succ]
             refine wpAnyH_take (i := 26) (oi := spn9_26) (v := undef) rfl (by as_aux_lemma => kernel_rfl) (by as_aux_lemma => kernel_rfl) (by as_aux_lemma => kernel_rfl) (fun _ _ _ h => h) (Or.inr ⟨by rfl, rfl⟩) (by assumption) ?_
             try simp only [spn9_26, Act.put, List.setIfInBounds_toArray, List.set_cons_zero, List.set_cons_succ]
             refine wpAnyH_take (i := 27) (oi := spn9_27) (v := undef) rfl (by as_aux_lemma => kernel_rfl) (by as_aux_lemma => kernel_rfl) (by as_aux_lemma => kernel_rfl) (fun _ _ _ h => h) (Or.inr ⟨by rfl, rfl⟩) (by assumption) ?_
             try simp only [spn9_27, Act.put, List.setIfInBounds_toArray, List.set_cons_zero, List.set_cons_succ]
             refine wpAnyH_take (i := 28) (oi := spn9_28) (v := undef) rfl (by as_aux_lemma => kernel_rfl) (by as_aux_lemma => kernel_rfl) (by as_aux_lemma => kernel_rfl) (fun _ _ _ h => h) (Or.inr ⟨by rfl, rfl⟩) (by assumption) ?_
             try simp only [spn9_28, Act.put, List.setIfInBounds_toArray, List.set_cons_zero, List.set_cons_succ]
             refine wpAnyH_take (i := 29) (oi := spn9_29) (v := ?_) rfl (by as_aux_lemma => kernel_rfl) (by as_aux_lemma => kernel_rfl) (by as_aux_lemma => kernel_rfl) (fun _ _ _ h => h) (Or.inl ⟨by rfl, ?_⟩) (by assumption) ?_
             rotate_left
             · unfold spn9_29; intro w hSw; (try dsimp only at hSw); go_simp; try (with_reducible rfl)
             try simp only [spn9_29, Act.put, List.setIfInBounds_toArray, List.set_cons_zero, List.set_cons_succ]
             refine wpAnyH_take (i := 30) (oi := spn9_30) (v := ?_) rfl (by as_aux_lemma => kernel_rfl) (by as_aux_lemma => kernel_rfl) (by as_aux_lemma => kernel_rfl) (fun _ _ _ h => h) (Or.inl ⟨by rfl, ?_⟩) (by assumption) ?_
             rotate_left
             · unfold spn9_30; intro w hSw; (try dsimp only at hSw); go_simp; try (with_reducible rfl)
             try simp only [spn9_30, Act.put, List.setIfInBounds_toArray, List.set_cons_zero, List.set_cons_succ]
             refine wpAnyH_take (i := 31) (oi := spn9_31) (v := ?_) rfl (by as_aux_lemma => kernel_rfl) (by as_aux_lemma => kernel_rfl) (by as_aux_lemma => kernel_rfl) (fun _ _ _ h => h) (Or.inl ⟨by rfl, ?_⟩) (by assumption) ?_
             rotate_left
             · unfold spn9_31; intro w hSw; (try dsimp only at hSw); go_simp; try (with_reducible rfl)
             try simp only [spn9_31, Act.put, List.setIfInBounds_toArray, List.set_cons_zero, List.set_cons_succ]
             refine wpAnyH_take (i := 32) (oi := spn9_32) (v := ?_) rfl (by as_aux_lemma => kernel_rfl) (by as_aux_lemma => kernel_rfl) (by as_aux_lemma => kernel_rfl) (fun _ _ _ h => h) (Or.inl ⟨by rfl, ?_⟩) (by assumption) ?_
             rotate_left
             · unfold spn9_32; intro w hSw; (try dsimp only at hSw); go_simp; try (with_reducible rfl)
             try simp only [spn9_32, Act.put, List.setIfInBounds_toArray, List.set_cons_zero, List.set_cons_succ]
             refine wpAnyH_take (i := 33) (oi := spn9_33) (v := ?_) rfl (by as_aux_lemma => kernel_rfl) (by as_aux_lemma => kernel_rfl) (by as_aux_lemma => kernel_rfl) (fun _ _ _ h => h) (Or.inl ⟨by rfl, ?_⟩) (by assumption) ?_
             rotate_left
             · unfold spn9_33; intro w hSw; (try dsimp only at hSw); go_simp; try (with_reducible rfl)
             try simp only [spn9_33, Act.put, List.setIfInBounds_toArray, List.set_cons_zero, List.set_cons_succ]
             refine wpAnyH_take (i := 34) (oi := spn9_34) (v := ?_) rfl (by as_aux_lemma => kernel_rfl) (by as_aux_lemma => kernel_rfl) (by as_aux_lemma => kernel_rfl) (fun _ _ _ h => h) (Or.inl ⟨by rfl, ?_⟩) (by assumption) ?_
             rotate_left
             · unfold spn9_34; intro w hSw; (try dsimp only at hSw); go_simp; try (with_reducible rfl)
             try simp only [spn9_34, Act.put, List.setIfInBounds_toArray, List.set_cons_zero, List.set_cons_succ]
             refine wpAnyH_take (i := 35) (oi := spn9_35) (v := ?_) rfl (by as_aux_lemma => kernel_rfl) (by as_aux_lemma => kernel_rfl) (by as_aux_lemma => kernel_rfl) (fun _ _ _ h => h) (Or.inl ⟨by rfl, ?_⟩) (by assumption) ?_
             rotate_left
             · unfold spn9_35; intro w hSw; (try dsimp only at hSw); go_simp; try (with_reducible rfl)
             try simp only [spn9_35, Act.put, List.setIfInBounds_toArray, List.set_cons_zero, List.set_cons_succ]
             as_aux_lemma =>
              refine wpAnyH_take (i := 36) (oi := spn9_36) (v := ?_) rfl (by as_aux_lemma => kernel_rfl) (by as_aux_lemma => kernel_rfl) (by as_aux_lemma => kernel_rfl) (fun _ _ _ h => h) (Or.inl ⟨by rfl, ?_⟩) (by assumption) ?_
              rotate_left
              · unfold spn9_36; intro w hSw; (try dsimp only at hSw); go_simp; try (with_reducible rfl)
              try simp only [spn9_36, Act.put, List.setIfInBounds_toArray, List.set_cons_zero, List.set_cons_succ]
              refine wpAnyH_ready (rs := [37]) (by as_aux_lemma => kernel_rfl) (by simp) ?_
              refine (AllReadyH.cons (o := spn9_37) rfl (fun K hK => ?_) AllReadyH.nil)
              unfold spn9_37
              go_simp
              (go_at_call 15; (with_reducible refine (HAU.out _).mono ?_); rintro e z37 ⟨rfl, bl37⟩)
              try go_wp2_with fail
              refine hK.out _ _ ?_ (fun hHeld2 => ?_)
              · (with_reducible refine keep16 BA_30 BB_31 BU_32 BM_33 BX0 ?_; repeat (first | (with_reducible exact Below.refl _ _) | refine below_bx2 ?_ _ | refine below_drw ?_ | refine below_to ?_ (by assumption)))
              clear hK K hHeld
              have hHeld := hHeld2
              clear hHeld2
              try simp only [spn9_37, Act.put, List.setIfInBounds_toArray, List.set_cons_zero, List.set_cons_succ]
              as_aux_lemma =>
               refine wpAnyH_take (i := 38) (oi := spn9_38) (v := ?_) rfl (by as_aux_lemma => kernel_rfl) (by as_aux_lemma => kernel_rfl) (by as_aux_lemma => kernel_rfl) (fun _ _ _ h => h) (Or.inl ⟨by rfl, ?_⟩) (by assumption) ?_
               rotate_left
               · unfold spn9_38; intro w hSw; (try dsimp only at hSw); go_simp; try (with_reducible rfl)
               try simp only [spn9_38, Act.put, List.setIfInBounds_toArray, List.set_cons_zero, List.set_cons_succ]
               refine wpAnyH_take (i := 39) (oi := spn9_39) (v := ?_) rfl (by as_aux_lemma => kernel_rfl) (by as_aux_lemma => kernel_rfl) (by as_aux_lemma => kernel_rfl) (fun _ _ _ h => h) (Or.inl ⟨by rfl, ?_⟩) (by assumption) ?_
               rotate_left
               · unfold spn9_39; intro w hSw; (try dsimp only at hSw); go_simp; try (with_reducible rfl)
               try simp only [spn9_39, Act.put, List.setIfInBounds_toArray, List.set_cons_zero, List.set_cons_succ]
               refine wpAnyH_take (i := 40) (oi := spn9_40) (v := ?_) rfl (by as_aux_lemma => kernel_rfl) (by as_aux_lemma => kernel_rfl) (by as_aux_lemma => kernel_rfl) (fun _ _ _ h => h) (Or.inl ⟨by rfl, ?_⟩) (by assumption) ?_
               rotate_left
               · unfold spn9_40; intro w hSw; (try dsimp only at hSw); go_simp; try (with_reducible rfl)
               try simp only [spn9_40, Act.put, List.setIfInBounds_toArray, List.set_cons_zero, List.set_cons_succ]
               refine wpAnyH_take (i := 41) (oi := spn9_41) (v := ?_) rfl (by as_aux_lemma => kernel_rfl) (by as_aux_lemma => kernel_rfl) (by as_aux_lemma => kernel_rfl) (fun _ _ _ h => h) (Or.inl ⟨by rfl, ?_⟩) (by assumption) ?_
               rotate_left
               · unfold spn9_41; intro w hSw; (try dsimp only at hSw); go_simp; try (with_reducible rfl)
               try simp only [spn9_41, Act.put, List.setIfInBounds_toArray, List.set_cons_zero, List.set_cons_succ]
               refine wpAnyH_ready (rs := [42]) (by as_aux_lemma => kernel_rfl) (by simp) ?_
               refine (AllReadyH.cons (o := spn9_42) rfl (fun K hK => ?_) AllReadyH.nil)
               unfold spn9_42
               go_simp
               (go_at_call 15; (with_reducible refine (HBU.out _).mono ?_); rintro e z42 ⟨rfl, bl42⟩)
               try go_wp2_with fail
               refine hK.out _ _ ?_ (fun hHeld2 => ?_)
               · (with_reducible refine keep16 BA_30 BB_31 BU_32 BM_33 BX0 ?_; repeat (first | (with_reducible exact Below.refl _ _) | refine below_bx2 ?_ _ | refine below_drw ?_ | refine below_to ?_ (by assumption)))
               clear hK K hHeld
               have hHeld := hHeld2
               clear hHeld2
               try simp only [spn9_42, Act.put, List.setIfInBounds_toArray, List.set_cons_zero, List.set_cons_succ]
               as_aux_lemma =>
                refine wpAnyH_take (i := 43) (oi := spn9_43) (v := ?_) rfl (by as_aux_lemma => kernel_rfl) (by as_aux_lemma => kernel_rfl) (by as_aux_lemma => kernel_rfl) (fun _ _ _ h => h) (Or.inl ⟨by rfl, ?_⟩) (by assumption) ?_
                rotate_left
                · unfold spn9_43; intro w hSw; (try dsimp only at hSw); go_simp; try (with_reducible rfl)
                try simp only [spn9_43, Act.put, List.setIfInBounds_toArray, List.set_cons_zero, List.set_cons_succ]
                refine wpAnyH_take (i := 44) (oi := spn9_44) (v := ?_) rfl (by as_aux_lemma => kernel_rfl) (by as_aux_lemma => kernel_rfl) (by as_aux_lemma => kernel_rfl) (fun _ _ _ h => h) (Or.inl ⟨by rfl, ?_⟩) (by assumption) ?_
                rotate_left
                · unfold spn9_44; intro w hSw; (try dsimp only at hSw); go_simp; try (with_reducible rfl)
                try simp only [spn9_44, Act.put, List.setIfInBounds_toArray, List.set_cons_zero, List.set_cons_succ]
                refine wpAnyH_done (by kernel_rfl) ?_ _
                go_wp2_with fail
                go_meet
                refine ⟨by simp, ?_⟩
                repeat (first | (with_reducible exact Below.refl _ _) | refine below_bx2 ?_ _ | refine below_drw ?_ | refine below_to ?_ (by assumption))
      | false =>
        have f00 := BA_30.cell0 (i := 0) (v := .int .i64 a1) rfl
        have f01 := BA_30.cell0 (i := 1) (v := .int .i64 b1) rfl
        have f02 := BA_30.cell0 (i := 2) (v := .int .i64 c1) rfl
        have f03 := BA_30.cell0 (i := 3) (v := .int .i64 d1) rfl
        have f10 := BB_31.cell0 (i := 0) (v := .int .i64 a2) rfl
        have f11 := BB_31.cell0 (i := 1) (v := .int .i64 b2) rfl
        have f12 := BB_31.cell0 (i := 2) (v := .int .i64 c2) rfl
        have f13 := BB_31.cell0 (i := 3) (v := .int .i64 d2) rfl
        have f20 := BU_32.cell0 (i := 0) (v := .int .i64 uN) rfl
        have f21 := BU_32.cell0 (i := 1) (v := .int .i64 uD) rfl
        have f30 := BM_33.cell0 (i := 0) (v := .int .i64 m1) rfl
        have f31 := BM_33.cell0 (i := 1) (v := .int .i64 m2) rfl
        have f32 := BM_33.cell0 (i := 2) (v := .int .i64 m3) rfl
        have f33 := BM_33.cell0 (i := 3) (v := .int .i64 m4) rfl
        have f40 := BX0.cell0 (i := 0) (v := .int .i64 x1) rfl
        have f41 := BX0.cell0 (i := 1) (v := .int .i64 x2) rfl
        refine wp_region_held_drew (S := (fun w' => w'.cell? ⟨ab, 0, none⟩ = some (.int .i64 a1) ∧ w'.cell? ⟨ab, 1, none⟩ = some (.int .i64 b1) ∧ w'.cell? ⟨ab, 2, none⟩ = some (.int .i64 c1) ∧ w'.cell? ⟨ab, 3, none⟩ = some (.int .i64 d1) ∧ w'.cell? ⟨bb, 0, none⟩ = some (.int .i64 a2) ∧ w'.cell? ⟨bb, 1, none⟩ = some (.int .i64 b2) ∧ w'.cell? ⟨bb, 2, none⟩ = some (.int .i64 c2) ∧ w'.cell? ⟨bb, 3, none⟩ = some (.int .i64 d2) ∧ w'.cell? ⟨ub, 0, none⟩ = some (.int .i64 uN) ∧ w'.cell? ⟨ub, 1, none⟩ = some (.int .i64 uD) ∧ w'.cell? ⟨mb, 0, none⟩ = some (.int .i64 m1) ∧ w'.cell? ⟨mb, 1, none⟩ = some (.int .i64 m2) ∧ w'.cell? ⟨mb, 2, none⟩ = some (.int .i64 m3) ∧ w'.cell? ⟨mb, 3, none⟩ = some (.int .i64 m4) ∧ w'.cell? ⟨xb, 0, none⟩ = some (.int .i64 x1) ∧ w'.cell? ⟨xb, 1, none⟩ = some (.int .i64 x2))) (by kernel_rfl) ?_ (fun hHeld => ?_)
        · (with_reducible refine keep16 BA_30 BB_31 BU_32 BM_33 BX0 ?_; repeat (first | (with_reducible exact Below.refl _ _) | refine below_bx2 ?_ _ | refine below_drw ?_ | refine below_to ?_ (by assumption)))
        refine wpAnyH_take (i := 0) (oi := spn9_0) (v := ?_) rfl (by as_aux_lemma => kernel_rfl) (by as_aux_lemma => kernel_rfl) (by as_aux_lemma => kernel_rfl) (fun _ _ _ h => h) (Or.inl ⟨by rfl, ?_⟩) (by assumption) ?_
        rotate_left
        · unfold spn9_0; intro w hSw; (try dsimp only at hSw); go_simp; try (with_reducible rfl)
        try simp only [spn9_0, Act.put, List.setIfInBounds_toArray, List.set_cons_zero, List.set_cons_succ]
        refine wpAnyH_ready (rs := [1]) (by as_aux_lemma => kernel_rfl) (by simp) ?_
        refine (AllReadyH.cons (o := spn9_1) rfl (fun K hK => ?_) AllReadyH.nil)
        unfold spn9_1
        go_simp
        (go_at_call 12; (with_reducible refine (HSA.out _).mono ?_); rintro e z1 ⟨rfl, bl1⟩)
        try go_wp2_with fail
        refine hK.out _ _ ?_ (fun hHeld2 => ?_)
        · (with_reducible refine keep16 BA_30 BB_31 BU_32 BM_33 BX0 ?_; repeat (first | (with_reducible exact Below.refl _ _) | refine below_bx2 ?_ _ | refine below_drw ?_ | refine below_to ?_ (by assumption)))
        clear hK K hHeld
        have hHeld := hHeld2
        clear hHeld2
        try simp only [spn9_1, Act.put, List.setIfInBounds_toArray, List.set_cons_zero, List.set_cons_succ]
        as_aux_lemma =>
         refine wpAnyH_take (i := 2) (oi := spn9_2) (v := ?_) rfl (by as_aux_lemma => kernel_rfl) (by as_aux_lemma => kernel_rfl) (by as_aux_lemma => kernel_rfl) (fun _ _ _ h => h) (Or.inl ⟨by rfl, ?_⟩) (by assumption) ?_
         rotate_left
         · unfold spn9_2; intro w hSw; (try dsimp only at hSw); go_simp; try (with_reducible rfl)
         try simp only [spn9_2, Act.put, List.setIfInBounds_toArray, List.set_cons_zero, List.set_cons_succ]
         refine wpAnyH_take (i := 3) (oi := spn9_3) (v := ?_) rfl (by as_aux_lemma => kernel_rfl) (by as_aux_lemma => kernel_rfl) (by as_aux_lemma => kernel_rfl) (fun _ _ _ h => h) (Or.inl ⟨by rfl, ?_⟩) (by assumption) ?_
         rotate_left
         · unfold spn9_3; intro w hSw; (try dsimp only at hSw); go_simp; try (with_reducible rfl)
         try simp only [spn9_3, Act.put, List.setIfInBounds_toArray, List.set_cons_zero, List.set_cons_succ]
         refine wpAnyH_take (i := 4) (oi := spn9_4) (v := ?_) rfl (by as_aux_lemma => kernel_rfl) (by as_aux_lemma => kernel_rfl) (by as_aux_lemma => kernel_rfl) (fun _ _ _ h => h) (Or.inl ⟨by rfl, ?_⟩) (by assumption) ?_
         rotate_left
         · unfold spn9_4; intro w hSw; (try dsimp only at hSw); go_simp; try (with_reducible rfl)
         try simp only [spn9_4, Act.put, List.setIfInBounds_toArray, List.set_cons_zero, List.set_cons_succ]
         refine wpAnyH_ready (rs := [5]) (by as_aux_lemma => kernel_rfl) (by simp) ?_
         refine (AllReadyH.cons (o := spn9_5) rfl (fun K hK => ?_) AllReadyH.nil)
         unfold spn9_5
         go_simp
         (go_at_call 12; (with_reducible refine (HSB.out _).mono ?_); rintro e z5 ⟨rfl, bl5⟩)
         try go_wp2_with fail
         refine hK.out _ _ ?_ (fun hHeld2 => ?_)
         · (with_reducible refine keep16 BA_30 BB_31 BU_32 BM_33 BX0 ?_; repeat (first | (with_reducible exact Below.refl _ _) | refine below_bx2 ?_ _ | refine below_drw ?_ | refine below_to ?_ (by assumption)))
         clear hK K hHeld
         have hHeld := hHeld2
         clear hHeld2
         try simp only [spn9_5, Act.put, List.setIfInBounds_toArray, List.set_cons_zero, List.set_cons_succ]
         as_aux_lemma =>
          refine wpAnyH_take (i := 6) (oi := spn9_6) (v := ?_) rfl (by as_aux_lemma => kernel_rfl) (by as_aux_lemma => kernel_rfl) (by as_aux_lemma => kernel_rfl) (fun _ _ _ h => h) (Or.inl ⟨by rfl, ?_⟩) (by assumption) ?_
          rotate_left
          · unfold spn9_6; intro w hSw; (try dsimp only at hSw); go_simp; try (with_reducible rfl)
          try simp only [spn9_6, Act.put, List.setIfInBounds_toArray, List.set_cons_zero, List.set_cons_succ]
          refine wpAnyH_take (i := 7) (oi := spn9_7) (v := ?_) rfl (by as_aux_lemma => kernel_rfl) (by as_aux_lemma => kernel_rfl) (by as_aux_lemma => kernel_rfl) (fun _ _ _ h => h) (Or.inl ⟨by rfl, ?_⟩) (by assumption) ?_
          rotate_left
          · unfold spn9_7; intro w hSw; (try dsimp only at hSw); go_simp; try (with_reducible rfl)
          try simp only [spn9_7, Act.put, List.setIfInBounds_toArray, List.set_cons_zero, List.set_cons_succ]
          refine wpAnyH_take (i := 8) (oi := spn9_8) (v := ?_) rfl (by as_aux_lemma => kernel_rfl) (by as_aux_lemma => kernel_rfl) (by as_aux_lemma => kernel_rfl) (fun _ _ _ h => h) (Or.inl ⟨by rfl, ?_⟩) (by assumption) ?_
          rotate_left
          · unfold spn9_8; intro w hSw; (try dsimp only at hSw); go_simp; try (with_reducible rfl)
          try simp only [spn9_8, Act.put, List.setIfInBounds_toArray, List.set_cons_zero, List.set_cons_succ]
          refine wpAnyH_take (i := 9) (oi := spn9_9) (v := ?_) rfl (by as_aux_lemma => kernel_rfl) (by as_aux_lemma => kernel_rfl) (by as_aux_lemma => kernel_rfl) (fun _ _ _ h => h) (Or.inl ⟨by rfl, ?_⟩) (by assumption) ?_
          rotate_left
          · unfold spn9_9; intro w hSw; (try dsimp only at hSw); go_simp; try (with_reducible rfl)
          try simp only [spn9_9, Act.put, List.setIfInBounds_toArray, List.set_cons_zero, List.set_cons_succ]
          refine wpAnyH_take (i := 10) (oi := spn9_10) (v := ?_) rfl (by as_aux_lemma => kernel_rfl) (by as_aux_lemma => kernel_rfl) (by as_aux_lemma => kernel_rfl) (fun _ _ _ h => h) (Or.inl ⟨by rfl, ?_⟩) (by assumption) ?_
          rotate_left
          · unfold spn9_10; intro w hSw; (try dsimp only at hSw); go_simp; try (with_reducible rfl)
          try simp only [spn9_10, Act.put, List.setIfInBounds_toArray, List.set_cons_zero, List.set_cons_succ]
          refine wpAnyH_ready (rs := [11]) (by as_aux_lemma => kernel_rfl) (by simp) ?_
          refine (AllReadyH.cons (o := spn9_11) rfl (fun K hK => ?_) AllReadyH.nil)
          unfold spn9_11
          go_simp
          (go_at_call 15; (with_reducible refine (HIX.out _).mono ?_); rintro e z11 ⟨rfl, bl11⟩)
          try go_wp2_with fail
          refine hK.out _ _ ?_ (fun hHeld2 => ?_)
          · (with_reducible refine keep16 BA_30 BB_31 BU_32 BM_33 BX0 ?_; repeat (first | (with_reducible exact Below.refl _ _) | refine below_bx2 ?_ _ | refine below_drw ?_ | refine below_to ?_ (by assumption)))
          clear hK K hHeld
          have hHeld := hHeld2
          clear hHeld2
          try simp only [spn9_11, Act.put, List.setIfInBounds_toArray, List.set_cons_zero, List.set_cons_succ]
          as_aux_lemma =>
           refine wpAnyH_take (i := 12) (oi := spn9_12) (v := ?_) rfl (by as_aux_lemma => kernel_rfl) (by as_aux_lemma => kernel_rfl) (by as_aux_lemma => kernel_rfl) (fun _ _ _ h => h) (Or.inl ⟨by rfl, ?_⟩) (by assumption) ?_
           rotate_left
           · unfold spn9_12; intro w hSw; (try dsimp only at hSw); go_simp; try (with_reducible rfl)
           try simp only [spn9_12, Act.put, List.setIfInBounds_toArray, List.set_cons_zero, List.set_cons_succ]
           refine wpAnyH_take (i := 13) (oi := spn9_13) (v := ?_) rfl (by as_aux_lemma => kernel_rfl) (by as_aux_lemma => kernel_rfl) (by as_aux_lemma => kernel_rfl) (fun _ _ _ h => h) (Or.inl ⟨by rfl, ?_⟩) (by assumption) ?_
           rotate_left
           · unfold spn9_13; intro w hSw; (try dsimp only at hSw); go_simp; try (with_reducible rfl)
           try simp only [spn9_13, Act.put, List.setIfInBounds_toArray, List.set_cons_zero, List.set_cons_succ]
           refine wpAnyH_take (i := 14) (oi := spn9_14) (v := ?_) rfl (by as_aux_lemma => kernel_rfl) (by as_aux_lemma => kernel_rfl) (by as_aux_lemma => kernel_rfl) (fun _ _ _ h => h) (Or.inl ⟨by rfl, ?_⟩) (by assumption) ?_
           rotate_left
           · unfold spn9_14; intro w hSw; (try dsimp only at hSw); go_simp; try (with_reducible rfl)
           try simp only [spn9_14, Act.put, List.setIfInBounds_toArray, List.set_cons_zero, List.set_cons_succ]
           refine wpAnyH_take (i := 15) (oi := spn9_15) (v := ?_) rfl (by as_aux_lemma => kernel_rfl) (by as_aux_lemma => kernel_rfl) (by as_aux_lemma => kernel_rfl) (fun _ _ _ h => h) (Or.inl ⟨by rfl, ?_⟩) (by assumption) ?_
           rotate_left
           · unfold spn9_15; intro w hSw; (try dsimp only at hSw); go_simp; try (with_reducible rfl)
           try simp only [spn9_15, Act.put, List.setIfInBounds_toArray, List.set_cons_zero, List.set_cons_succ]
           refine wpAnyH_take (i := 16) (oi := spn9_16) (v := ?_) rfl (by as_aux_lemma => kernel_rfl) (by as_aux_lemma => kernel_rfl) (by as_aux_lemma => kernel_rfl) (fun _ _ _ h => h) (Or.inl ⟨by rfl, ?_⟩) (by assumption) ?_
           rotate_left
           · unfold spn9_16; intro w hSw; (try dsimp only at hSw); go_simp; try (with_reducible rfl)
           try simp only [spn9_16, Act.put, List.setIfInBounds_toArray, List.set_cons_zero, List.set_cons_succ]
           refine wpAnyH_take (i := 17) (oi := spn9_17) (v := undef) rfl (by as_aux_lemma => kernel_rfl) (by as_aux_lemma => kernel_rfl) (by as_aux_lemma => kernel_rfl) (fun _ _ _ h => h) (Or.inr ⟨by rfl, rfl⟩) (by assumption) ?_
           try simp only [spn9_17, Act.put, List.setIfInBounds_toArray, List.set_cons_zero, List.set_cons_succ]
           refine wpAnyH_take (i := 18) (oi := spn9_18) (v := undef) rfl (by as_aux_lemma => kernel_rfl) (by as_aux_lemma => kernel_rfl) (by as_aux_lemma => kernel_rfl) (fun _ _ _ h => h) (Or.inr ⟨by rfl, rfl⟩) (by assumption) ?_
           try simp only [spn9_18, Act.put, List.setIfInBounds_toArray, List.set_cons_zero, List.set_cons_succ]
           refine wpAnyH_take (i := 19) (oi := spn9_19) (v := undef) rfl (by as_aux_lemma => kernel_rfl) (by as_aux_lemma => kernel_rfl) (by as_aux_lemma => kernel_rfl) (fun _ _ _ h => h) (Or.inr ⟨by rfl, rfl⟩) (by assumption) ?_
           try simp only [spn9_19, Act.put, List.setIfInBounds_toArray, List.set_cons_zero, List.set_cons_succ]
           refine wpAnyH_take (i := 20) (oi := spn9_20) (v := undef) rfl (by as_aux_lemma => kernel_rfl) (by as_aux_lemma => kernel_rfl) (by as_aux_lemma => kernel_rfl) (fun _ _ _ h => h) (Or.inr ⟨by rfl, rfl⟩) (by assumption) ?_
           try simp only [spn9_20, Act.put, List.setIfInBounds_toArray, List.set_cons_zero, List.set_cons_succ]
           refine wpAnyH_take (i := 21) (oi := spn9_21) (v := undef) rfl (by as_aux_lemma => kernel_rfl) (by as_aux_lemma => kernel_rfl) (by as_aux_lemma => kernel_rfl) (fun _ _ _ h => h) (Or.inr ⟨by rfl, rfl⟩) (by assumption) ?_
           try simp only [spn9_21, Act.put, List.setIfInBounds_toArray, List.set_cons_zero, List.set_cons_succ]
           refine wpAnyH_take (i := 22) (oi := spn9_22) (v := undef) rfl (by as_aux_lemma => kernel_rfl) (by as_aux_lemma => kernel_rfl) (by as_aux_lemma => kernel_rfl) (fun _ _ _ h => h) (Or.inr ⟨by rfl, rfl⟩) (by assumption) ?_
           try simp only [spn9_22, Act.put, List.setIfInBounds_toArray, List.set_cons_zero, List.set_cons_succ]
           refine wpAnyH_take (i := 23) (oi := spn9_23) (v := undef) rfl (by as_aux_lemma => kernel_rfl) (by as_aux_lemma => kernel_rfl) (by as_aux_lemma => kernel_rfl) (fun _ _ _ h => h) (Or.inr ⟨by rfl, rfl⟩) (by assumption) ?_
           try simp only [spn9_23, Act.put, List.setIfInBounds_toArray, List.set_cons_zero, List.set_cons_succ]
           refine wpAnyH_take (i := 24) (oi := spn9_24) (v := undef) rfl (by as_aux_lemma => kernel_rfl) (by as_aux_lemma => kernel_rfl) (by as_aux_lemma => kernel_rfl) (fun _ _ _ h => h) (Or.inr ⟨by rfl, rfl⟩) (by assumption) ?_
           try simp only [spn9_24, Act.put, List.setIfInBounds_toArray, List.set_cons_zero, List.set_cons_succ]
           refine wpAnyH_take (i := 25) (oi := spn9_25) (v := undef) rfl (by as_aux_lemma => kernel_rfl) (by as_aux_lemma => kernel_rfl) (by as_aux_lemma => kernel_rfl) (fun _ _ _ h => h) (Or.inr ⟨by rfl, rfl⟩) (by assumption) ?_
           try simp only [spn9_25, Act.put, List.setIfInBounds_toArray, List.set_cons_zero, List.set_cons_succ]
           refine wpAnyH_take (i := 26) (oi := spn9_26) (v := undef) rfl (by as_aux_lemma => kernel_rfl) (by as_aux_lemma => kernel_rfl) (by as_aux_lemma => kernel_rfl) (fun _ _ _ h => h) (Or.inr ⟨by rfl, rfl⟩) (by assumption) ?_
           try simp only [spn9_26, Act.put, List.setIfInBounds_toArray, List.set_cons_zero, List.set_cons_succ]
           refine wpAnyH_take (i := 27) (oi := spn9_27) (v := undef) rfl (by as_aux_lemma => kernel_rfl) (by as_aux_lemma => kernel_rfl) (by as_aux_lemma => kernel_rfl) (fun _ _ _ h => h) (Or.inr ⟨by rfl, rfl⟩) (by assumption) ?_
           try simp only [spn9_27, Act.put, List.setIfInBounds_toArray, List.set_cons_zero, List.set_cons_succ]
           refine wpAnyH_take (i := 28) (oi := spn9_28) (v := undef) rfl (by as_aux_lemma => kernel_rfl) (by as_aux_lemma => kernel_rfl) (by as_aux_lemma => kernel_rfl) (fun _ _ _ h => h) (Or.inr ⟨by rfl, rfl⟩) (by assumption) ?_
           try simp only [spn9_28, Act.put, List.setIfInBounds_toArray, List.set_cons_zero, List.set_cons_succ]
           refine wpAnyH_take (i := 29) (oi := spn9_29) (v := ?_) rfl (by as_aux_lemma => kernel_rfl) (by as_aux_lemma => kernel_rfl) (by as_aux_lemma => kernel_rfl) (fun _ _ _ h => h) (Or.inl ⟨by rfl, ?_⟩) (by assumption) ?_
           rotate_left
           · unfold spn9_29; intro w hSw; (try dsimp only at hSw); go_simp; try (with_reducible rfl)
           try simp only [spn9_29, Act.put, List.setIfInBounds_toArray, List.set_cons_zero, List.set_cons_succ]
           refine wpAnyH_take (i := 30) (oi := spn9_30) (v := ?_) rfl (by as_aux_lemma => kernel_rfl) (by as_aux_lemma => kernel_rfl) (by as_aux_lemma => kernel_rfl) (fun _ _ _ h => h) (Or.inl ⟨by rfl, ?_⟩) (by assumption) ?_
           rotate_left
           · unfold spn9_30; intro w hSw; (try dsimp only at hSw); go_simp; try (with_reducible rfl)
           try simp only [spn9_30, Act.put, List.setIfInBounds_toArray, List.set_cons_zero, List.set_cons_succ]
           refine wpAnyH_take (i := 31) (oi := spn9_31) (v := ?_) rfl (by as_aux_lemma => kernel_rfl) (by as_aux_lemma => kernel_rfl) (by as_aux_lemma => kernel_rfl) (fun _ _ _ h => h) (Or.inl ⟨by rfl, ?_⟩) (by assumption) ?_
           rotate_left
           · unfold spn9_31; intro w hSw; (try dsimp only at hSw); go_simp; try (with_reducible rfl)
           try simp only [spn9_31, Act.put, List.setIfInBounds_toArray, List.set_cons_zero, List.set_cons_succ]
           refine wpAnyH_take (i := 32) (oi := spn9_32) (v := ?_) rfl (by as_aux_lemma => kernel_rfl) (by as_aux_lemma => kernel_rfl) (by as_aux_lemma => kernel_rfl) (fun _ _ _ h => h) (Or.inl ⟨by rfl, ?_⟩) (by assumption) ?_
           rotate_left
           · unfold spn9_32; intro w hSw; (try dsimp only at hSw); go_simp; try (with_reducible rfl)
           try simp only [spn9_32, Act.put, List.setIfInBounds_toArray, List.set_cons_zero, List.set_cons_succ]
           refine wpAnyH_take (i := 33) (oi := spn9_33) (v := ?_) rfl (by as_aux_lemma => kernel_rfl) (by as_aux_lemma => kernel_rfl) (by as_aux_lemma => kernel_rfl) (fun _ _ _ h => h) (Or.inl ⟨by rfl, ?_⟩) (by assumption) ?_
           rotate_left
           · unfold spn9_33; intro w hSw; (try dsimp only at hSw); go_simp; try (with_reducible rfl)
           try simp only [spn9_33, Act.put, List.setIfInBounds_toArray, List.set_cons_zero, List.set_cons_succ]
           refine wpAnyH_take (i := 34) (oi := spn9_34) (v := ?_) rfl (by as_aux_lemma => kernel_rfl) (by as_aux_lemma => kernel_rfl) (by as_aux_lemma => kernel_rfl) (fun _ _ _ h => h) (Or.inl ⟨by rfl, ?_⟩) (by assumption) ?_
           rotate_left
           · unfold spn9_34; intro w hSw; (try dsimp only at hSw); go_simp; try (with_reducible rfl)
           try simp only [spn9_34, Act.put, List.setIfInBounds_toArray, List.set_cons_zero, List.set_cons_succ]
           refine wpAnyH_take (i := 35) (oi := spn9_35) (v := ?_) rfl (by as_aux_lemma => kernel_rfl) (by as_aux_lemma => kernel_rfl) (by as_aux_lemma => kernel_rfl) (fun _ _ _ h => h) (Or.inl ⟨by rfl, ?_⟩) (by assumption) ?_
           rotate_left
           · unfold spn9_35; intro w hSw; (try dsimp only at hSw); go_simp; try (with_reducible rfl)
           try simp only [spn9_35, Act.put, List.setIfInBounds_toArray, List.set_cons_zero, List.set_cons_succ]
           as_aux_lemma =>
            refine wpAnyH_take (i := 36) (oi := spn9_36) (v := ?_) rfl (by as_aux_lemma => kernel_rfl) (by as_aux_lemma => kernel_rfl) (by as_aux_lemma => kernel_rfl) (fun _ _ _ h => h) (Or.inl ⟨by rfl, ?_⟩) (by assumption) ?_
            rotate_left
            · unfold spn9_36; intro w hSw; (try dsimp only at hSw); go_simp; try (with_reducible rfl)
            try simp only [spn9_36, Act.put, List.setIfInBounds_toArray, List.set_cons_zero, List.set_cons_succ]
            refine wpAnyH_ready (rs := [37]) (by as_aux_lemma => kernel_rfl) (by simp) ?_
            refine (AllReadyH.cons (o := spn9_37) rfl (fun K hK => ?_) AllReadyH.nil)
            unfold spn9_37
            go_simp
            (go_at_call 15; (with_reducible refine (HAU.out _).mono ?_); rintro e z37 ⟨rfl, bl37⟩)
            try go_wp2_with fail
            refine hK.out _ _ ?_ (fun hHeld2 => ?_)
            · (with_reducible refine keep16 BA_30 BB_31 BU_32 BM_33 BX0 ?_; repeat (first | (with_reducible exact Below.refl _ _) | refine below_bx2 ?_ _ | refine below_drw ?_ | refine below_to ?_ (by assumption)))
            clear hK K hHeld
            have hHeld := hHeld2
            clear hHeld2
            try simp only [spn9_37, Act.put, List.setIfInBounds_toArray, List.set_cons_zero, List.set_cons_succ]
            as_aux_lemma =>
             refine wpAnyH_take (i := 38) (oi := spn9_38) (v := ?_) rfl (by as_aux_lemma => kernel_rfl) (by as_aux_lemma => kernel_rfl) (by as_aux_lemma => kernel_rfl) (fun _ _ _ h => h) (Or.inl ⟨by rfl, ?_⟩) (by assumption) ?_
             rotate_left
             · unfold spn9_38; intro w hSw; (try dsimp only at hSw); go_simp; try (with_reducible rfl)
             try simp only [spn9_38, Act.put, List.setIfInBounds_toArray, List.set_cons_zero, List.set_cons_succ]
             refine wpAnyH_take (i := 39) (oi := spn9_39) (v := ?_) rfl (by as_aux_lemma => kernel_rfl) (by as_aux_lemma => kernel_rfl) (by as_aux_lemma => kernel_rfl) (fun _ _ _ h => h) (Or.inl ⟨by rfl, ?_⟩) (by assumption) ?_
             rotate_left
             · unfold spn9_39; intro w hSw; (try dsimp only at hSw); go_simp; try (with_reducible rfl)
             try simp only [spn9_39, Act.put, List.setIfInBounds_toArray, List.set_cons_zero, List.set_cons_succ]
             refine wpAnyH_take (i := 40) (oi := spn9_40) (v := undef) rfl (by as_aux_lemma => kernel_rfl) (by as_aux_lemma => kernel_rfl) (by as_aux_lemma => kernel_rfl) (fun _ _ _ h => h) (Or.inr ⟨by rfl, rfl⟩) (by assumption) ?_
             try simp only [spn9_40, Act.put, List.setIfInBounds_toArray, List.set_cons_zero, List.set_cons_succ]
             refine wpAnyH_take (i := 41) (oi := spn9_41) (v := undef) rfl (by as_aux_lemma => kernel_rfl) (by as_aux_lemma => kernel_rfl) (by as_aux_lemma => kernel_rfl) (fun _ _ _ h => h) (Or.inr ⟨by rfl, rfl⟩) (by assumption) ?_
             try simp only [spn9_41, Act.put, List.setIfInBounds_toArray, List.set_cons_zero, List.set_cons_succ]
             refine wpAnyH_take (i := 42) (oi := spn9_42) (v := undef) rfl (by as_aux_lemma => kernel_rfl) (by as_aux_lemma => kernel_rfl) (by as_aux_lemma => kernel_rfl) (fun _ _ _ h => h) (Or.inr ⟨by rfl, rfl⟩) (by assumption) ?_
             try simp only [spn9_42, Act.put, List.setIfInBounds_toArray, List.set_cons_zero, List.set_cons_succ]
             refine wpAnyH_take (i := 43) (oi := spn9_43) (v := ?_) rfl (by as_aux_lemma => kernel_rfl) (by as_aux_lemma => kernel_rfl) (by as_aux_lemma => kernel_rfl) (fun _ _ _ h => h) (Or.inl ⟨by rfl, ?_⟩) (by assumption) ?_
             rotate_left
             · unfold spn9_43; intro w hSw; (try dsimp only at hSw); go_simp; try (with_reducible rfl)
             try simp only [spn9_43, Act.put, List.setIfInBounds_toArray, List.set_cons_zero, List.set_cons_succ]
             refine wpAnyH_take (i := 44) (oi := spn9_44) (v := ?_) rfl (by as_aux_lemma => kernel_rfl) (by as_aux_lemma => kernel_rfl) (by as_aux_lemma => kernel_rfl) (fun _ _ _ h => h) (Or.inl ⟨by rfl, ?_⟩) (by assumption) ?_
             rotate_left
             · unfold spn9_44; intro w hSw; (try dsimp only at hSw); go_simp; try (with_reducible rfl)
             try simp only [spn9_44, Act.put, List.setIfInBounds_toArray, List.set_cons_zero, List.set_cons_succ]
             refine wpAnyH_done (by kernel_rfl) ?_ _
             go_wp2_with fail
             go_meet
             refine ⟨by simp, ?_⟩
             repeat (first | (with_reducible exact Below.refl _ _) | refine below_bx2 ?_ _ | refine below_drw ?_ | refine below_to ?_ (by assumption))
  case rest =>
    obtain ⟨rfl, hbx⟩ := hcut
    rename World => w9
    have b_34 := below_to b_29 hbx
    have BA_35 := BA_30.to hbx
    have BB_36 := BB_31.to hbx
    have BU_37 := BU_32.to hbx
    have BM_38 := BM_33.to hbx
    have BX_39 := BX0.to hbx
    clear b_29 BA_30 BB_31 BU_32 BM_33 BX0
    clear hbx HIM HME HMN HSA HSB HIX HAU HBU
    go_wp2_with fail
    have b7 := b_34
    go_loopw [10] (fun i wr => ∃ n : Int, -60 ≤ n ∧ n ≤ 61 ∧ i = .int .i64 n ∧ Below w9.heap.size w9 wr) (fun i _ => (61 - intOf i).toNat)
    case atStart => exact ⟨-60, by omega, by omega, rfl, Below.refl _ _⟩
    case round =>
      obtain ⟨n, hn1, hn2, rfl, hbw⟩ := hrel
      have b_40 := below_to b_34 hbw
      have BA_41 := BA_35.to hbw
      have BB_42 := BB_36.to hbw
      have BU_43 := BU_37.to hbw
      have BM_44 := BM_38.to hbw
      have BX_45 := BX_39.to hbw
      have hbv := hbw
      by_cases hlt : n ≤ 60
      · have HO := Lib.hid (fun V => impl_ofA n 1 V (by omega) (by omega) (by omega) (by omega))
        rw [(one_of (n := n) (by omega)).1, (one_of (n := n) (by omega)).2.1] at HO
        have HNI := Lib.hid (fun V => HAN.out V n ⟨by omega, by omega⟩)
        have HNE := Lib.hid (HNR.out n ⟨by omega, by omega⟩)
        generalize ispB a1 b1 c1 d1 n 1 = Z at *
        go_upto_region 14 with fail
        go_cut [109] from 82 to 109 (fun s6 wx => s6 = .bool false ∧ Below wr.heap.size wr wx)
        case first =>
          cases Z with
          | false =>
            have f00 := BA_41.cell0 (i := 0) (v := .int .i64 a1) rfl
            have f01 := BA_41.cell0 (i := 1) (v := .int .i64 b1) rfl
            have f02 := BA_41.cell0 (i := 2) (v := .int .i64 c1) rfl
            have f03 := BA_41.cell0 (i := 3) (v := .int .i64 d1) rfl
            have f40 := BX_45.cell0 (i := 0) (v := .int .i64 x1) rfl
            have f41 := BX_45.cell0 (i := 1) (v := .int .i64 x2) rfl
            refine wp_region_held_drew (S := (fun w' => w'.cell? ⟨ab, 0, none⟩ = some (.int .i64 a1) ∧ w'.cell? ⟨ab, 1, none⟩ = some (.int .i64 b1) ∧ w'.cell? ⟨ab, 2, none⟩ = some (.int .i64 c1) ∧ w'.cell? ⟨ab, 3, none⟩ = some (.int .i64 d1) ∧ w'.cell? ⟨xb, 0, none⟩ = some (.int .i64 x1) ∧ w'.cell? ⟨xb, 1, none⟩ = some (.int .i64 x2))) (by kernel_rfl) ?_ (fun hHeld => ?_)
            · (with_reducible refine keep42 BA_41 BX_45 ?_; repeat (first | (with_reducible exact Below.refl _ _) | refine below_bx2 ?_ _ | refine below_drw ?_ | refine below_to ?_ (by assumption)))
            refine wpAnyH_take (i := 0) (oi := spn14_0) (v := ?_) rfl (by as_aux_lemma => kernel_rfl) (by as_aux_lemma => kernel_rfl) (by as_aux_lemma => kernel_rfl) (fun _ _ _ h => h) (Or.inl ⟨by rfl, ?_⟩) (by assumption) ?_
            rotate_left
            · unfold spn14_0; intro w hSw; (try dsimp only at hSw); go_simp; try (with_reducible rfl)
            try simp only [spn14_0, Act.put, List.setIfInBounds_toArray, List.set_cons_zero, List.set_cons_succ]
            refine wpAnyH_take (i := 1) (oi := spn14_1) (v := ?_) rfl (by as_aux_lemma => kernel_rfl) (by as_aux_lemma => kernel_rfl) (by as_aux_lemma => kernel_rfl) (fun _ _ _ h => h) (Or.inl ⟨by rfl, ?_⟩) (by assumption) ?_
            rotate_left
            · unfold spn14_1; intro w hSw; (try dsimp only at hSw); go_simp; try (with_reducible rfl)
            try simp only [spn14_1, Act.put, List.setIfInBounds_toArray, List.set_cons_zero, List.set_cons_succ]
            refine wpAnyH_ready (rs := [2]) (by as_aux_lemma => kernel_rfl) (by simp) ?_
            refine (AllReadyH.cons (o := spn14_2) rfl (fun K hK => ?_) AllReadyH.nil)
            unfold spn14_2
            go_simp
            (go_at_call 33; (with_reducible refine (HO.out _).mono ?_); rintro e z2 ⟨rfl, bl2⟩)
            try go_wp2_with fail
            refine hK.out _ _ ?_ (fun hHeld2 => ?_)
            · (with_reducible refine keep42 BA_41 BX_45 ?_; repeat (first | (with_reducible exact Below.refl _ _) | refine below_bx2 ?_ _ | refine below_drw ?_ | refine below_to ?_ (by assumption)))
            clear hK K hHeld
            have hHeld := hHeld2
            clear hHeld2
            try simp only [spn14_2, Act.put, List.setIfInBounds_toArray, List.set_cons_zero, List.set_cons_succ]
            as_aux_lemma =>
             refine wpAnyH_ready (rs := [3]) (by as_aux_lemma => kernel_rfl) (by simp) ?_
             refine (AllReadyH.cons (o := spn14_3) rfl (fun K hK => ?_) AllReadyH.nil)
             unfold spn14_3
             go_simp
             (go_at_call 15; (with_reducible refine (HNI.out _).mono ?_); rintro e z3 ⟨rfl, bl3⟩)
             try go_wp2_with fail
             refine hK.out _ _ ?_ (fun hHeld2 => ?_)
             · (with_reducible refine keep42 BA_41 BX_45 ?_; repeat (first | (with_reducible exact Below.refl _ _) | refine below_bx2 ?_ _ | refine below_drw ?_ | refine below_to ?_ (by assumption)))
             clear hK K hHeld
             have hHeld := hHeld2
             clear hHeld2
             try simp only [spn14_3, Act.put, List.setIfInBounds_toArray, List.set_cons_zero, List.set_cons_succ]
             as_aux_lemma =>
              refine wpAnyH_take (i := 4) (oi := spn14_4) (v := ?_) rfl (by as_aux_lemma => kernel_rfl) (by as_aux_lemma => kernel_rfl) (by as_aux_lemma => kernel_rfl) (fun _ _ _ h => h) (Or.inl ⟨by rfl, ?_⟩) (by assumption) ?_
              rotate_left
              · unfold spn14_4; intro w hSw; (try dsimp only at hSw); go_simp; try (with_reducible rfl)
              try simp only [spn14_4, Act.put, List.setIfInBounds_toArray, List.set_cons_zero, List.set_cons_succ]
              refine wpAnyH_take (i := 5) (oi := spn14_5) (v := undef) rfl (by as_aux_lemma => kernel_rfl) (by as_aux_lemma => kernel_rfl) (by as_aux_lemma => kernel_rfl) (fun _ _ _ h => h) (Or.inr ⟨by rfl, rfl⟩) (by assumption) ?_
              try simp only [spn14_5, Act.put, List.setIfInBounds_toArray, List.set_cons_zero, List.set_cons_succ]
              refine wpAnyH_take (i := 6) (oi := spn14_6) (v := undef) rfl (by as_aux_lemma => kernel_rfl) (by as_aux_lemma => kernel_rfl) (by as_aux_lemma => kernel_rfl) (fun _ _ _ h => h) (Or.inr ⟨by rfl, rfl⟩) (by assumption) ?_
              try simp only [spn14_6, Act.put, List.setIfInBounds_toArray, List.set_cons_zero, List.set_cons_succ]
              refine wpAnyH_take (i := 7) (oi := spn14_7) (v := undef) rfl (by as_aux_lemma => kernel_rfl) (by as_aux_lemma => kernel_rfl) (by as_aux_lemma => kernel_rfl) (fun _ _ _ h => h) (Or.inr ⟨by rfl, rfl⟩) (by assumption) ?_
              try simp only [spn14_7, Act.put, List.setIfInBounds_toArray, List.set_cons_zero, List.set_cons_succ]
              refine wpAnyH_take (i := 8) (oi := spn14_8) (v := undef) rfl (by as_aux_lemma => kernel_rfl) (by as_aux_lemma => kernel_rfl) (by as_aux_lemma => kernel_rfl) (fun _ _ _ h => h) (Or.inr ⟨by rfl, rfl⟩) (by assumption) ?_
              try simp only [spn14_8, Act.put, List.setIfInBounds_toArray, List.set_cons_zero, List.set_cons_succ]
              refine wpAnyH_take (i := 9) (oi := spn14_9) (v := undef) rfl (by as_aux_lemma => kernel_rfl) (by as_aux_lemma => kernel_rfl) (by as_aux_lemma => kernel_rfl) (fun _ _ _ h => h) (Or.inr ⟨by rfl, rfl⟩) (by assumption) ?_
              try simp only [spn14_9, Act.put, List.setIfInBounds_toArray, List.set_cons_zero, List.set_cons_succ]
              refine wpAnyH_take (i := 10) (oi := spn14_10) (v := undef) rfl (by as_aux_lemma => kernel_rfl) (by as_aux_lemma => kernel_rfl) (by as_aux_lemma => kernel_rfl) (fun _ _ _ h => h) (Or.inr ⟨by rfl, rfl⟩) (by assumption) ?_
              try simp only [spn14_10, Act.put, List.setIfInBounds_toArray, List.set_cons_zero, List.set_cons_succ]
              refine wpAnyH_take (i := 11) (oi := spn14_11) (v := undef) rfl (by as_aux_lemma => kernel_rfl) (by as_aux_lemma => kernel_rfl) (by as_aux_lemma => kernel_rfl) (fun _ _ _ h => h) (Or.inr ⟨by rfl, rfl⟩) (by assumption) ?_
              try simp only [spn14_11, Act.put, List.setIfInBounds_toArray, List.set_cons_zero, List.set_cons_succ]
              refine wpAnyH_take (i := 12) (oi := spn14_12) (v := undef) rfl (by as_aux_lemma => kernel_rfl) (by as_aux_lemma => kernel_rfl) (by as_aux_lemma => kernel_rfl) (fun _ _ _ h => h) (Or.inr ⟨by rfl, rfl⟩) (by assumption) ?_
              try simp only [spn14_12, Act.put, List.setIfInBounds_toArray, List.set_cons_zero, List.set_cons_succ]
              refine wpAnyH_take (i := 13) (oi := spn14_13) (v := undef) rfl (by as_aux_lemma => kernel_rfl) (by as_aux_lemma => kernel_rfl) (by as_aux_lemma => kernel_rfl) (fun _ _ _ h => h) (Or.inr ⟨by rfl, rfl⟩) (by assumption) ?_
              try simp only [spn14_13, Act.put, List.setIfInBounds_toArray, List.set_cons_zero, List.set_cons_succ]
              refine wpAnyH_take (i := 14) (oi := spn14_14) (v := undef) rfl (by as_aux_lemma => kernel_rfl) (by as_aux_lemma => kernel_rfl) (by as_aux_lemma => kernel_rfl) (fun _ _ _ h => h) (Or.inr ⟨by rfl, rfl⟩) (by assumption) ?_
              try simp only [spn14_14, Act.put, List.setIfInBounds_toArray, List.set_cons_zero, List.set_cons_succ]
              refine wpAnyH_take (i := 15) (oi := spn14_15) (v := undef) rfl (by as_aux_lemma => kernel_rfl) (by as_aux_lemma => kernel_rfl) (by as_aux_lemma => kernel_rfl) (fun _ _ _ h => h) (Or.inr ⟨by rfl, rfl⟩) (by assumption) ?_
              try simp only [spn14_15, Act.put, List.setIfInBounds_toArray, List.set_cons_zero, List.set_cons_succ]
              refine wpAnyH_take (i := 16) (oi := spn14_16) (v := undef) rfl (by as_aux_lemma => kernel_rfl) (by as_aux_lemma => kernel_rfl) (by as_aux_lemma => kernel_rfl) (fun _ _ _ h => h) (Or.inr ⟨by rfl, rfl⟩) (by assumption) ?_
              try simp only [spn14_16, Act.put, List.setIfInBounds_toArray, List.set_cons_zero, List.set_cons_succ]
              refine wpAnyH_take (i := 17) (oi := spn14_17) (v := undef) rfl (by as_aux_lemma => kernel_rfl) (by as_aux_lemma => kernel_rfl) (by as_aux_lemma => kernel_rfl) (fun _ _ _ h => h) (Or.inr ⟨by rfl, rfl⟩) (by assumption) ?_
              try simp only [spn14_17, Act.put, List.setIfInBounds_toArray, List.set_cons_zero, List.set_cons_succ]
              refine wpAnyH_take (i := 18) (oi := spn14_18) (v := undef) rfl (by as_aux_lemma => kernel_rfl) (by as_aux_lemma => kernel_rfl) (by as_aux_lemma => kernel_rfl) (fun _ _ _ h => h) (Or.inr ⟨by rfl, rfl⟩) (by assumption) ?_
              try simp only [spn14_18, Act.put, List.setIfInBounds_toArray, List.set_cons_zero, List.set_cons_succ]
              refine wpAnyH_take (i := 19) (oi := spn14_19) (v := undef) rfl (by as_aux_lemma => kernel_rfl) (by as_aux_lemma => kernel_rfl) (by as_aux_lemma => kernel_rfl) (fun _ _ _ h => h) (Or.inr ⟨by rfl, rfl⟩) (by assumption) ?_
              try simp only [spn14_19, Act.put, List.setIfInBounds_toArray, List.set_cons_zero, List.set_cons_succ]
              refine wpAnyH_take (i := 20) (oi := spn14_20) (v := undef) rfl (by as_aux_lemma => kernel_rfl) (by as_aux_lemma => kernel_rfl) (by as_aux_lemma => kernel_rfl) (fun _ _ _ h => h) (Or.inr ⟨by rfl, rfl⟩) (by assumption) ?_
              try simp only [spn14_20, Act.put, List.setIfInBounds_toArray, List.set_cons_zero, List.set_cons_succ]
              refine wpAnyH_take (i := 21) (oi := spn14_21) (v := undef) rfl (by as_aux_lemma => kernel_rfl) (by as_aux_lemma => kernel_rfl) (by as_aux_lemma => kernel_rfl) (fun _ _ _ h => h) (Or.inr ⟨by rfl, rfl⟩) (by assumption) ?_
              try simp only [spn14_21, Act.put, List.setIfInBounds_toArray, List.set_cons_zero, List.set_cons_succ]
              refine wpAnyH_take (i := 22) (oi := spn14_22) (v := undef) rfl (by as_aux_lemma => kernel_rfl) (by as_aux_lemma => kernel_rfl) (by as_aux_lemma => kernel_rfl) (fun _ _ _ h => h) (Or.inr ⟨by rfl, rfl⟩) (by assumption) ?_
              try simp only [spn14_22, Act.put, List.setIfInBounds_toArray, List.set_cons_zero, List.set_cons_succ]
              refine wpAnyH_take (i := 23) (oi := spn14_23) (v := undef) rfl (by as_aux_lemma => kernel_rfl) (by as_aux_lemma => kernel_rfl) (by as_aux_lemma => kernel_rfl) (fun _ _ _ h => h) (Or.inr ⟨by rfl, rfl⟩) (by assumption) ?_
              try simp only [spn14_23, Act.put, List.setIfInBounds_toArray, List.set_cons_zero, List.set_cons_succ]
              refine wpAnyH_take (i := 24) (oi := spn14_24) (v := undef) rfl (by as_aux_lemma => kernel_rfl) (by as_aux_lemma => kernel_rfl) (by as_aux_lemma => kernel_rfl) (fun _ _ _ h => h) (Or.inr ⟨by rfl, rfl⟩) (by assumption) ?_
              try simp only [spn14_24, Act.put, List.setIfInBounds_toArray, List.set_cons_zero, List.set_cons_succ]
              refine wpAnyH_take (i := 25) (oi := spn14_25) (v := undef) rfl (by as_aux_lemma => kernel_rfl) (by as_aux_lemma => kernel_rfl) (by as_aux_lemma => kernel_rfl) (fun _ _ _ h => h) (Or.inr ⟨by rfl, rfl⟩) (by assumption) ?_
              try simp only [spn14_25, Act.put, List.setIfInBounds_toArray, List.set_cons_zero, List.set_cons_succ]
              refine wpAnyH_take (i := 26) (oi := spn14_26) (v := undef) rfl (by as_aux_lemma => kernel_rfl) (by as_aux_lemma => kernel_rfl) (by as_aux_lemma => kernel_rfl) (fun _ _ _ h => h) (Or.inr ⟨by rfl, rfl⟩) (by assumption) ?_
              try simp only [spn14_26, Act.put, List.setIfInBounds_toArray, List.set_cons_zero, List.set_cons_succ]
              refine wpAnyH_take (i := 27) (oi := spn14_27) (v := ?_) rfl (by as_aux_lemma => kernel_rfl) (by as_aux_lemma => kernel_rfl) (by as_aux_lemma => kernel_rfl) (fun _ _ _ h => h) (Or.inl ⟨by rfl, ?_⟩) (by assumption) ?_
              rotate_left
              · unfold spn14_27; intro w hSw; (try dsimp only at hSw); go_simp; try (with_reducible rfl)
              try simp only [spn14_27, Act.put, List.setIfInBounds_toArray, List.set_cons_zero, List.set_cons_succ]
              refine wpAnyH_done (by kernel_rfl) ?_ _
              go_wp2_with fail
              go_meet
              refine ⟨by first | rfl | simp | simp [hmx], ?_⟩
              repeat (first | (with_reducible exact Below.refl _ _) | refine below_bx2 ?_ _ | refine below_drw ?_ | refine below_to ?_ (by assumption))
          | true =>
            obtain ⟨hx2, hnr⟩ := HNE.out (by simp)
            subst hx2
            have hmx : decide (max (n - wish) (wish - n) < max (x1 - wish) (wish - x1)) = false := decide_eq_false (by omega)
            have y1 : IntKind.i64.wrap (n - wish) = n - wish := IntWalk.i64_in _ (by omega)
            have y2 : IntKind.i64.wrap (wish - n) = wish - n := IntWalk.i64_in _ (by omega)
            have y3 : IntKind.i64.wrap (x1 - wish) = x1 - wish := IntWalk.i64_in _ (by omega)
            have y4 : IntKind.i64.wrap (wish - x1) = wish - x1 := IntWalk.i64_in _ (by omega)
            clear hnr
            have f00 := BA_41.cell0 (i := 0) (v := .int .i64 a1) rfl
            have f01 := BA_41.cell0 (i := 1) (v := .int .i64 b1) rfl
            have f02 := BA_41.cell0 (i := 2) (v := .int .i64 c1) rfl
            have f03 := BA_41.cell0 (i := 3) (v := .int .i64 d1) rfl
            have f40 := BX_45.cell0 (i := 0) (v := .int .i64 x1) rfl
            have f41 := BX_45.cell0 (i := 1) (v := .int .i64 1) rfl
            refine wp_region_held_drew (S := (fun w' => w'.cell? ⟨ab, 0, none⟩ = some (.int .i64 a1) ∧ w'.cell? ⟨ab, 1, none⟩ = some (.int .i64 b1) ∧ w'.cell? ⟨ab, 2, none⟩ = some (.int .i64 c1) ∧ w'.cell? ⟨ab, 3, none⟩ = some (.int .i64 d1) ∧ w'.cell? ⟨xb, 0, none⟩ = some (.int .i64 x1) ∧ w'.cell? ⟨xb, 1, none⟩ = some (.int .i64 1))) (by kernel_rfl) ?_ (fun hHeld => ?_)
            · (with_reducible refine keep42 BA_41 BX_45 ?_; repeat (first | (with_reducible exact Below.refl _ _) | refine below_bx2 ?_ _ | refine below_drw ?_ | refine below_to ?_ (by assumption)))
            refine wpAnyH_take (i := 0) (oi := spn14_0) (v := ?_) rfl (by as_aux_lemma => kernel_rfl) (by as_aux_lemma => kernel_rfl) (by as_aux_lemma => kernel_rfl) (fun _ _ _ h => h) (Or.inl ⟨by rfl, ?_⟩) (by assumption) ?_
            rotate_left
            · unfold spn14_0; intro w hSw; (try dsimp only at hSw); go_simp; try (with_reducible rfl)
            try simp only [spn14_0, Act.put, List.setIfInBounds_toArray, List.set_cons_zero, List.set_cons_succ]
            refine wpAnyH_take (i := 1) (oi := spn14_1) (v := ?_) rfl (by as_aux_lemma => kernel_rfl) (by as_aux_lemma => kernel_rfl) (by as_aux_lemma => kernel_rfl) (fun _ _ _ h => h) (Or.inl ⟨by rfl, ?_⟩) (by assumption) ?_
            rotate_left
            · unfold spn14_1; intro w hSw; (try dsimp only at hSw); go_simp; try (with_reducible rfl)
            try simp only [spn14_1, Act.put, List.setIfInBounds_toArray, List.set_cons_zero, List.set_cons_succ]
            refine wpAnyH_ready (rs := [2]) (by as_aux_lemma => kernel_rfl) (by simp) ?_
            refine (AllReadyH.cons (o := spn14_2) rfl (fun K hK => ?_) AllReadyH.nil)
            unfold spn14_2
            go_simp
            (go_at_call 33; (with_reducible refine (HO.out _).mono ?_); rintro e z2 ⟨rfl, bl2⟩)
            try go_wp2_with fail
            refine hK.out _ _ ?_ (fun hHeld2 => ?_)
            · (with_reducible refine keep42 BA_41 BX_45 ?_; repeat (first | (with_reducible exact Below.refl _ _) | refine below_bx2 ?_ _ | refine below_drw ?_ | refine below_to ?_ (by assumption)))
            clear hK K hHeld
            have hHeld := hHeld2
            clear hHeld2
            try simp only [spn14_2, Act.put, List.setIfInBounds_toArray, List.set_cons_zero, List.set_cons_succ]
            as_aux_lemma =>
             refine wpAnyH_ready (rs := [3]) (by as_aux_lemma => kernel_rfl) (by simp) ?_
             refine (AllReadyH.cons (o := spn14_3) rfl (fun K hK => ?_) AllReadyH.nil)
             unfold spn14_3
             go_simp
             (go_at_call 15; (with_reducible refine (HNI.out _).mono ?_); rintro e z3 ⟨rfl, bl3⟩)
             try go_wp2_with fail
             refine hK.out _ _ ?_ (fun hHeld2 => ?_)
             · (with_reducible refine keep42 BA_41 BX_45 ?_; repeat (first | (with_reducible exact Below.refl _ _) | refine below_bx2 ?_ _ | refine below_drw ?_ | refine below_to ?_ (by assumption)))
             clear hK K hHeld
             have hHeld := hHeld2
             clear hHeld2
             try simp only [spn14_3, Act.put, List.setIfInBounds_toArray, List.set_cons_zero, List.set_cons_succ]
             as_aux_lemma =>
              refine wpAnyH_take (i := 4) (oi := spn14_4) (v := ?_) rfl (by as_aux_lemma => kernel_rfl) (by as_aux_lemma => kernel_rfl) (by as_aux_lemma => kernel_rfl) (fun _ _ _ h => h) (Or.inl ⟨by rfl, ?_⟩) (by assumption) ?_
              rotate_left
              · unfold spn14_4; intro w hSw; (try dsimp only at hSw); go_simp; try (with_reducible rfl)
              try simp only [spn14_4, Act.put, List.setIfInBounds_toArray, List.set_cons_zero, List.set_cons_succ]
              refine wpAnyH_take (i := 5) (oi := spn14_5) (v := ?_) rfl (by as_aux_lemma => kernel_rfl) (by as_aux_lemma => kernel_rfl) (by as_aux_lemma => kernel_rfl) (fun _ _ _ h => h) (Or.inl ⟨by rfl, ?_⟩) (by assumption) ?_
              rotate_left
              · unfold spn14_5; intro w hSw; (try dsimp only at hSw); go_simp; try (with_reducible rfl)
              try simp only [spn14_5, Act.put, List.setIfInBounds_toArray, List.set_cons_zero, List.set_cons_succ]
              refine wpAnyH_take (i := 6) (oi := spn14_6) (v := ?_) rfl (by as_aux_lemma => kernel_rfl) (by as_aux_lemma => kernel_rfl) (by as_aux_lemma => kernel_rfl) (fun _ _ _ h => h) (Or.inl ⟨by rfl, ?_⟩) (by assumption) ?_
              rotate_left
              · unfold spn14_6; intro w hSw; (try dsimp only at hSw); go_simp; try (with_reducible rfl)
              try simp only [spn14_6, Act.put, List.setIfInBounds_toArray, List.set_cons_zero, List.set_cons_succ]
              refine wpAnyH_take (i := 7) (oi := spn14_7) (v := ?_) rfl (by as_aux_lemma => kernel_rfl) (by as_aux_lemma => kernel_rfl) (by as_aux_lemma => kernel_rfl) (fun _ _ _ h => h) (Or.inl ⟨by rfl, ?_⟩) (by assumption) ?_
              rotate_left
              · unfold spn14_7; intro w hSw; (try dsimp only at hSw); go_simp; try (with_reducible rfl)
              try simp only [spn14_7, Act.put, List.setIfInBounds_toArray, List.set_cons_zero, List.set_cons_succ]
              refine wpAnyH_take (i := 8) (oi := spn14_8) (v := ?_) rfl (by as_aux_lemma => kernel_rfl) (by as_aux_lemma => kernel_rfl) (by as_aux_lemma => kernel_rfl) (fun _ _ _ h => h) (Or.inl ⟨by rfl, ?_⟩) (by assumption) ?_
              rotate_left
              · unfold spn14_8; intro w hSw; (try dsimp only at hSw); go_simp; try (with_reducible rfl)
              try simp only [spn14_8, Act.put, List.setIfInBounds_toArray, List.set_cons_zero, List.set_cons_succ]
              refine wpAnyH_take (i := 9) (oi := spn14_9) (v := ?_) rfl (by as_aux_lemma => kernel_rfl) (by as_aux_lemma => kernel_rfl) (by as_aux_lemma => kernel_rfl) (fun _ _ _ h => h) (Or.inl ⟨by rfl, ?_⟩) (by assumption) ?_
              rotate_left
              · unfold spn14_9; intro w hSw; (try dsimp only at hSw); go_simp; try (with_reducible rfl)
              try simp only [spn14_9, Act.put, List.setIfInBounds_toArray, List.set_cons_zero, List.set_cons_succ]
              refine wpAnyH_take (i := 10) (oi := spn14_10) (v := ?_) rfl (by as_aux_lemma => kernel_rfl) (by as_aux_lemma => kernel_rfl) (by as_aux_lemma => kernel_rfl) (fun _ _ _ h => h) (Or.inl ⟨by rfl, ?_⟩) (by assumption) ?_
              rotate_left
              · unfold spn14_10; intro w hSw; (try dsimp only at hSw); go_simp; try (with_reducible rfl)
              try simp only [spn14_10, Act.put, List.setIfInBounds_toArray, List.set_cons_zero, List.set_cons_succ]
              refine wpAnyH_take (i := 11) (oi := spn14_11) (v := ?_) rfl (by as_aux_lemma => kernel_rfl) (by as_aux_lemma => kernel_rfl) (by as_aux_lemma => kernel_rfl) (fun _ _ _ h => h) (Or.inl ⟨by rfl, ?_⟩) (by assumption) ?_
              rotate_left
              · unfold spn14_11; intro w hSw; (try dsimp only at hSw); go_simp; try (with_reducible rfl)
              try simp only [spn14_11, Act.put, List.setIfInBounds_toArray, List.set_cons_zero, List.set_cons_succ]
              refine wpAnyH_take (i := 12) (oi := spn14_12) (v := ?_) rfl (by as_aux_lemma => kernel_rfl) (by as_aux_lemma => kernel_rfl) (by as_aux_lemma => kernel_rfl) (fun _ _ _ h => h) (Or.inl ⟨by rfl, ?_⟩) (by assumption) ?_
              rotate_left
              · unfold spn14_12; intro w hSw; (try dsimp only at hSw); go_simp; try (with_reducible rfl)
              try simp only [spn14_12, Act.put, List.setIfInBounds_toArray, List.set_cons_zero, List.set_cons_succ]
              refine wpAnyH_take (i := 13) (oi := spn14_13) (v := ?_) rfl (by as_aux_lemma => kernel_rfl) (by as_aux_lemma => kernel_rfl) (by as_aux_lemma => kernel_rfl) (fun _ _ _ h => h) (Or.inl ⟨by rfl, ?_⟩) (by assumption) ?_
              rotate_left
              · unfold spn14_13; intro w hSw; (try dsimp only at hSw); go_simp; try (with_reducible rfl)
              try simp only [spn14_13, Act.put, List.setIfInBounds_toArray, List.set_cons_zero, List.set_cons_succ]
              refine wpAnyH_take (i := 14) (oi := spn14_14) (v := ?_) rfl (by as_aux_lemma => kernel_rfl) (by as_aux_lemma => kernel_rfl) (by as_aux_lemma => kernel_rfl) (fun _ _ _ h => h) (Or.inl ⟨by rfl, ?_⟩) (by assumption) ?_
              rotate_left
              · unfold spn14_14; intro w hSw; (try dsimp only at hSw); go_simp; try (with_reducible rfl)
              try simp only [spn14_14, Act.put, List.setIfInBounds_toArray, List.set_cons_zero, List.set_cons_succ]
              refine wpAnyH_take (i := 15) (oi := spn14_15) (v := ?_) rfl (by as_aux_lemma => kernel_rfl) (by as_aux_lemma => kernel_rfl) (by as_aux_lemma => kernel_rfl) (fun _ _ _ h => h) (Or.inl ⟨by rfl, ?_⟩) (by assumption) ?_
              rotate_left
              · unfold spn14_15; intro w hSw; (try dsimp only at hSw); go_simp; try (with_reducible rfl)
              try simp only [spn14_15, Act.put, List.setIfInBounds_toArray, List.set_cons_zero, List.set_cons_succ]
              as_aux_lemma =>
               refine wpAnyH_take (i := 16) (oi := spn14_16) (v := ?_) rfl (by as_aux_lemma => kernel_rfl) (by as_aux_lemma => kernel_rfl) (by as_aux_lemma => kernel_rfl) (fun _ _ _ h => h) (Or.inl ⟨by rfl, ?_⟩) (by assumption) ?_
               rotate_left
               · unfold spn14_16; intro w hSw; (try dsimp only at hSw); go_simp; try (with_reducible rfl)
               try simp only [spn14_16, Act.put, List.setIfInBounds_toArray, List.set_cons_zero, List.set_cons_succ]
               refine wpAnyH_take (i := 17) (oi := spn14_17) (v := ?_) rfl (by as_aux_lemma => kernel_rfl) (by as_aux_lemma => kernel_rfl) (by as_aux_lemma => kernel_rfl) (fun _ _ _ h => h) (Or.inl ⟨by rfl, ?_⟩) (by assumption) ?_
               rotate_left
               · unfold spn14_17; intro w hSw; (try dsimp only at hSw); go_simp; try (with_reducible rfl)
               try simp only [spn14_17, Act.put, List.setIfInBounds_toArray, List.set_cons_zero, List.set_cons_succ]
               refine wpAnyH_take (i := 18) (oi := spn14_18) (v := ?_) rfl (by as_aux_lemma => kernel_rfl) (by as_aux_lemma => kernel_rfl) (by as_aux_lemma => kernel_rfl) (fun _ _ _ h => h) (Or.inl ⟨by rfl, ?_⟩) (by assumption) ?_
               rotate_left
               · unfold spn14_18; intro w hSw; (try dsimp only at hSw); go_simp; try (with_reducible rfl)
               try simp only [spn14_18, Act.put, List.setIfInBounds_toArray, List.set_cons_zero, List.set_cons_succ]
               refine wpAnyH_take (i := 19) (oi := spn14_19) (v := ?_) rfl (by as_aux_lemma => kernel_rfl) (by as_aux_lemma => kernel_rfl) (by as_aux_lemma => kernel_rfl) (fun _ _ _ h => h) (Or.inl ⟨by rfl, ?_⟩) (by assumption) ?_
               rotate_left
               · unfold spn14_19; intro w hSw; (try dsimp only at hSw); go_simp; try (with_reducible rfl)
               try simp only [spn14_19, Act.put, List.setIfInBounds_toArray, List.set_cons_zero, List.set_cons_succ]
               refine wpAnyH_take (i := 20) (oi := spn14_20) (v := ?_) rfl (by as_aux_lemma => kernel_rfl) (by as_aux_lemma => kernel_rfl) (by as_aux_lemma => kernel_rfl) (fun _ _ _ h => h) (Or.inl ⟨by rfl, ?_⟩) (by assumption) ?_
               rotate_left
               · unfold spn14_20; intro w hSw; (try dsimp only at hSw); go_simp; try (with_reducible rfl)
               try simp only [spn14_20, Act.put, List.setIfInBounds_toArray, List.set_cons_zero, List.set_cons_succ]
               refine wpAnyH_take (i := 21) (oi := spn14_21) (v := ?_) rfl (by as_aux_lemma => kernel_rfl) (by as_aux_lemma => kernel_rfl) (by as_aux_lemma => kernel_rfl) (fun _ _ _ h => h) (Or.inl ⟨by rfl, ?_⟩) (by assumption) ?_
               rotate_left
               · unfold spn14_21; intro w hSw; (try dsimp only at hSw); go_simp; try (with_reducible rfl)
               try simp only [spn14_21, Act.put, List.setIfInBounds_toArray, List.set_cons_zero, List.set_cons_succ]
               refine wpAnyH_take (i := 22) (oi := spn14_22) (v := ?_) rfl (by as_aux_lemma => kernel_rfl) (by as_aux_lemma => kernel_rfl) (by as_aux_lemma => kernel_rfl) (fun _ _ _ h => h) (Or.inl ⟨by rfl, ?_⟩) (by assumption) ?_
               rotate_left
               · unfold spn14_22; intro w hSw; (try dsimp only at hSw); go_simp; try (with_reducible rfl)
               try simp only [spn14_22, Act.put, List.setIfInBounds_toArray, List.set_cons_zero, List.set_cons_succ]
               refine wpAnyH_take (i := 23) (oi := spn14_23) (v := ?_) rfl (by as_aux_lemma => kernel_rfl) (by as_aux_lemma => kernel_rfl) (by as_aux_lemma => kernel_rfl) (fun _ _ _ h => h) (Or.inl ⟨by rfl, ?_⟩) (by assumption) ?_
               rotate_left
               · unfold spn14_23; intro w hSw; (try dsimp only at hSw); go_simp; try (with_reducible rfl)
               try simp only [spn14_23, Act.put, List.setIfInBounds_toArray, List.set_cons_zero, List.set_cons_succ]
               refine wpAnyH_take (i := 24) (oi := spn14_24) (v := ?_) rfl (by as_aux_lemma => kernel_rfl) (by as_aux_lemma => kernel_rfl) (by as_aux_lemma => kernel_rfl) (fun _ _ _ h => h) (Or.inl ⟨by rfl, ?_⟩) (by assumption) ?_
               rotate_left
               · unfold spn14_24; intro w hSw; (try dsimp only at hSw); go_simp; try (with_reducible rfl)
               try simp only [spn14_24, Act.put, List.setIfInBounds_toArray, List.set_cons_zero, List.set_cons_succ]
               refine wpAnyH_take (i := 25) (oi := spn14_25) (v := ?_) rfl (by as_aux_lemma => kernel_rfl) (by as_aux_lemma => kernel_rfl) (by as_aux_lemma => kernel_rfl) (fun _ _ _ h => h) (Or.inl ⟨by rfl, ?_⟩) (by assumption) ?_
               rotate_left
               · unfold spn14_25; intro w hSw; (try dsimp only at hSw); go_simp; try (with_reducible rfl)
               try simp only [spn14_25, Act.put, List.setIfInBounds_toArray, List.set_cons_zero, List.set_cons_succ]
               refine wpAnyH_take (i := 26) (oi := spn14_26) (v := ?_) rfl (by as_aux_lemma => kernel_rfl) (by as_aux_lemma => kernel_rfl) (by as_aux_lemma => kernel_rfl) (fun _ _ _ h => h) (Or.inl ⟨by rfl, ?_⟩) (by assumption) ?_
               rotate_left
               · unfold spn14_26; intro w hSw; (try dsimp only at hSw); go_simp; try (with_reducible rfl)
               try simp only [spn14_26, Act.put, List.setIfInBounds_toArray, List.set_cons_zero, List.set_cons_succ]
               refine wpAnyH_take (i := 27) (oi := spn14_27) (v := ?_) rfl (by as_aux_lemma => kernel_rfl) (by as_aux_lemma => kernel_rfl) (by as_aux_lemma => kernel_rfl) (fun _ _ _ h => h) (Or.inl ⟨by rfl, ?_⟩) (by assumption) ?_
               rotate_left
               · unfold spn14_27; intro w hSw; (try dsimp only at hSw); go_simp; try (with_reducible rfl)
               try simp only [spn14_27, Act.put, List.setIfInBounds_toArray, List.set_cons_zero, List.set_cons_succ]
               as_aux_lemma =>
                refine wpAnyH_done (by kernel_rfl) ?_ _
                go_wp2_with fail
                go_meet
                refine ⟨by first | rfl | simp | simp [hmx], ?_⟩
                repeat (first | (with_reducible exact Below.refl _ _) | refine below_bx2 ?_ _ | refine below_drw ?_ | refine below_to ?_ (by assumption))
        case rest =>
          obtain ⟨rfl, hbx⟩ := hcut
          rename World => wc
          have b_46 := below_to b_40 hbx
          have BA_47 := BA_41.to hbx
          have BB_48 := BB_42.to hbx
          have BU_49 := BU_43.to hbx
          have BM_50 := BM_44.to hbx
          have BX_51 := BX_45.to hbx
          have w9b_52 := below_to hbv hbx
          clear b_40 BA_41 BB_42 BU_43 BM_44 BX_45 hbv
          clear hbx HO HNI HNE
          have hw1 : IntKind.i64.wrap (n + 1) = n + 1 := IntWalk.i64_in _ (by omega)
          go_wp2_with fail
          go_roundw
          case rel => exact ⟨n + 1, by omega, by omega, rfl, w9b_52⟩
          case measure => simp [intOf]; omega
      · obtain ⟨hw0, hwz⟩ := HWP.out
        have g0 : decide (0 ≤ W) = true := decide_eq_true hw0
        have q0 := BA_41.cell0 (i := 0) (v := .int .i64 a1) rfl
        have q1 := BA_41.cell0 (i := 1) (v := .int .i64 b1) rfl
        have q2 := BA_41.cell0 (i := 2) (v := .int .i64 c1) rfl
        have q3 := BA_41.cell0 (i := 3) (v := .int .i64 d1) rfl
        go_wp2_with fail
        clear q0 q1 q2 q3
        refine (HWI.out _).mono ?_
        rintro e w10 ⟨rfl, bl⟩
        have b_53 := below_to b_40 bl
        have BA_54 := BA_41.to bl
        have BB_55 := BB_42.to bl
        have BU_56 := BU_43.to bl
        have BM_57 := BM_44.to bl
        have BX_58 := BX_45.to bl
        have w9b_59 := below_to hbv bl
        clear b_40 BA_41 BB_42 BU_43 BM_44 BX_45 hbv
        clear bl
        by_cases hz : W = 0
        · subst hz
          have q0 := BA_54.cell0 (i := 0) (v := .int .i64 a1) rfl
          have q1 := BA_54.cell0 (i := 1) (v := .int .i64 b1) rfl
          have q2 := BA_54.cell0 (i := 2) (v := .int .i64 c1) rfl
          have q3 := BA_54.cell0 (i := 3) (v := .int .i64 d1) rfl
          go_wp2_with fail
          clear q0 q1 q2 q3
          refine (HWI.out _).mono ?_
          rintro e w11 ⟨rfl, bl⟩
          have b_60 := below_to b_53 bl
          have BA_61 := BA_54.to bl
          have BB_62 := BB_55.to bl
          have BU_63 := BU_56.to bl
          have BM_64 := BM_57.to bl
          have BX_65 := BX_58.to bl
          have w9b_66 := below_to w9b_59 bl
          clear b_53 BA_54 BB_55 BU_56 BM_57 BX_58 w9b_59
          clear bl
          go_wp2
          go_ret
          exact ⟨by simp, b_60⟩
        · have hx2 : x2 = 1 := by omega
          subst hx2
          have hz' : (W == 0) = false := eq_b hz
          have q0 := BA_54.cell0 (i := 0) (v := .int .i64 a1) rfl
          have q1 := BA_54.cell0 (i := 1) (v := .int .i64 b1) rfl
          have q2 := BA_54.cell0 (i := 2) (v := .int .i64 c1) rfl
          have q3 := BA_54.cell0 (i := 3) (v := .int .i64 d1) rfl
          go_wp2_with fail
          clear q0 q1 q2 q3
          refine (HWI.out _).mono ?_
          rintro e w11 ⟨rfl, bl⟩
          have b_67 := below_to b_53 bl
          have BA_68 := BA_54.to bl
          have BB_69 := BB_55.to bl
          have BU_70 := BU_56.to bl
          have BM_71 := BM_57.to bl
          have BX_72 := BX_58.to bl
          have w9b_73 := below_to w9b_59 bl
          clear b_53 BA_54 BB_55 BU_56 BM_57 BX_58 w9b_59
          clear bl
          have q0 := BX_72.cell0 (i := 1) (v := .int .i64 1) rfl
          go_wp2_with fail
          clear q0
          go_ret
          exact ⟨by simp, b_67⟩
end Go.Proofs.Ytibkmhmeoelpdaa
