/- The walk of the law FnMeets. -/
import Derived.Test.YtfndkapjclhflaaAj
import Derived.Test.YtfndkapjclhflaaAi
namespace Go.Proofs.Ytfndkapjclhflaa
open Go.RowKit
open Geo (H3)

theorem keepb4 {V X : World} {B0 B1 B2 B3 : Nat} {c0 c1 c2 c3 : Value} {T0 T1 T2 T3 : TypeId} (h0 : Blk V B0 #[c0] T0) (h1 : Blk V B1 #[c1] T1) (h2 : Blk V B2 #[c2] T2) (h3 : Blk V B3 #[c3] T3) (hb : Below V.heap.size V X) :
    X.cell? ⟨B0, 0, none⟩ = some c0 ∧ X.cell? ⟨B1, 0, none⟩ = some c1 ∧ X.cell? ⟨B2, 0, none⟩ = some c2 ∧ X.cell? ⟨B3, 0, none⟩ = some c3 :=
  ⟨(h0.to hb).cell0 rfl, (h1.to hb).cell0 rfl, (h2.to hb).cell0 rfl, (h3.to hb).cell0 rfl⟩
theorem keep33 {V X : World} {B0 B1 B2 E : Nat} {c0 c1 c2 x y z : Value} {T0 T1 T2 T3 : TypeId} (h0 : Blk V B0 #[c0] T0) (h1 : Blk V B1 #[c1] T1) (h2 : Blk V B2 #[c2] T2) (k : Blk V E #[x, y, z] T3) (hb : Below V.heap.size V X) :
    X.cell? ⟨B0, 0, none⟩ = some c0 ∧ X.cell? ⟨B1, 0, none⟩ = some c1 ∧ X.cell? ⟨B2, 0, none⟩ = some c2 ∧ X.cell? ⟨E, 0, none⟩ = some x ∧ X.cell? ⟨E, 1, none⟩ = some y ∧ X.cell? ⟨E, 2, none⟩ = some z :=
  ⟨(h0.to hb).cell0 rfl, (h1.to hb).cell0 rfl, (h2.to hb).cell0 rfl, (k.to hb).cell0 rfl, (k.to hb).cell0 rfl, (k.to hb).cell0 rfl⟩
theorem keepb3 {V X : World} {B0 B1 B2 : Nat} {c0 c1 c2 : Value} {T0 T1 T2 : TypeId} (h0 : Blk V B0 #[c0] T0) (h1 : Blk V B1 #[c1] T1) (h2 : Blk V B2 #[c2] T2) (hb : Below V.heap.size V X) :
    X.cell? ⟨B0, 0, none⟩ = some c0 ∧ X.cell? ⟨B1, 0, none⟩ = some c1 ∧ X.cell? ⟨B2, 0, none⟩ = some c2 :=
  ⟨(h0.to hb).cell0 rfl, (h1.to hb).cell0 rfl, (h2.to hb).cell0 rfl⟩
def mop0 : Oper :=
  { dst := some 33, op := Go.Op.move (Go.Operand.tmp 6), type := 4, pos := "laws.go:192", after := #[], guard := none }
def mop1 : Oper :=
  { dst := some 34, op := Go.Op.unOp Go.UnOp.not 4 (Go.Operand.tmp 33), type := 4, pos := "laws.go:192", after := #[{ on := 0, ground := Go.Ground.data }], guard := none }
def mop2 : Oper :=
  { dst := some 35, op := Go.Op.move (Go.Operand.tmp 34), type := 4, pos := "laws.go:192", after := #[{ on := 1, ground := Go.Ground.data }], guard := none }
def mop3 : Oper :=
  { dst := some 36, op := Go.Op.move (Go.Operand.tmp 8), type := 4, pos := "laws.go:192", after := #[{ on := 2, ground := Go.Ground.guard }], guard := some (2, false) }
def mop4 : Oper :=
  { dst := some 37, op := Go.Op.unOp Go.UnOp.not 4 (Go.Operand.tmp 36), type := 4, pos := "laws.go:192", after := #[{ on := 3, ground := Go.Ground.data }, { on := 2, ground := Go.Ground.guard }], guard := some (2, false) }
def mop5 : Oper :=
  { dst := some 38, op := Go.Op.pick (Go.Operand.tmp 35) (Go.Operand.const (Go.Value.bool true)) (Go.Operand.tmp 37), type := 4, pos := "laws.go:192", after := #[{ on := 2, ground := Go.Ground.data }, { on := 4, ground := Go.Ground.data }], guard := none }
def mop6 : Oper :=
  { dst := some 39, op := Go.Op.move (Go.Operand.tmp 38), type := 4, pos := "laws.go:192", after := #[{ on := 5, ground := Go.Ground.data }, { on := 2, ground := Go.Ground.chain }], guard := none }
def mop7 : Oper :=
  { dst := some 40, op := Go.Op.load 25 (Go.Operand.tmp 5), type := 25, pos := "laws.go:192", after := #[{ on := 6, ground := Go.Ground.guard }], guard := some (6, false) }
def mop8 : Oper :=
  { dst := some 41, op := Go.Op.load 25 (Go.Operand.tmp 7), type := 25, pos := "laws.go:192", after := #[{ on := 6, ground := Go.Ground.guard }], guard := some (6, false) }
def mop9 : Oper :=
  { dst := some 42, op := Go.Op.call { callee := Go.Callee.value (Go.Operand.func 21), args := #[Go.Operand.tmp 40, Go.Operand.tmp 41], argTypes := #[25, 25] }, type := 4, pos := "laws.go:192", after := #[{ on := 7, ground := Go.Ground.data }, { on := 8, ground := Go.Ground.data }, { on := 6, ground := Go.Ground.chain }, { on := 6, ground := Go.Ground.guard }], guard := some (6, false) }
def mop10 : Oper :=
  { dst := some 43, op := Go.Op.unOp Go.UnOp.not 4 (Go.Operand.tmp 42), type := 4, pos := "laws.go:192", after := #[{ on := 9, ground := Go.Ground.data }, { on := 6, ground := Go.Ground.guard }], guard := some (6, false) }
def mop11 : Oper :=
  { dst := some 44, op := Go.Op.pick (Go.Operand.tmp 39) (Go.Operand.const (Go.Value.bool true)) (Go.Operand.tmp 43), type := 4, pos := "laws.go:192", after := #[{ on := 6, ground := Go.Ground.data }, { on := 10, ground := Go.Ground.data }], guard := none }
def mop12 : Oper :=
  { dst := some 45, op := Go.Op.move (Go.Operand.tmp 44), type := 4, pos := "laws.go:192", after := #[{ on := 11, ground := Go.Ground.data }, { on := 9, ground := Go.Ground.chain }], guard := none }
def mop13 : Oper :=
  { dst := some 46, op := Go.Op.load 25 (Go.Operand.tmp 5), type := 25, pos := "laws.go:192", after := #[{ on := 12, ground := Go.Ground.guard }], guard := some (12, false) }
def mop14 : Oper :=
  { dst := some 47, op := Go.Op.load 25 (Go.Operand.tmp 3), type := 25, pos := "laws.go:192", after := #[{ on := 12, ground := Go.Ground.guard }], guard := some (12, false) }
def mop15 : Oper :=
  { dst := some 48, op := Go.Op.call { callee := Go.Callee.value (Go.Operand.func 22), args := #[Go.Operand.tmp 46, Go.Operand.tmp 47], argTypes := #[25, 25] }, type := 4, pos := "laws.go:192", after := #[{ on := 13, ground := Go.Ground.data }, { on := 14, ground := Go.Ground.data }, { on := 12, ground := Go.Ground.chain }, { on := 12, ground := Go.Ground.guard }], guard := some (12, false) }
def mop16 : Oper :=
  { dst := some 49, op := Go.Op.unOp Go.UnOp.not 4 (Go.Operand.tmp 48), type := 4, pos := "laws.go:192", after := #[{ on := 15, ground := Go.Ground.data }, { on := 12, ground := Go.Ground.guard }], guard := some (12, false) }
def mop17 : Oper :=
  { dst := some 50, op := Go.Op.pick (Go.Operand.tmp 45) (Go.Operand.const (Go.Value.bool true)) (Go.Operand.tmp 49), type := 4, pos := "laws.go:192", after := #[{ on := 12, ground := Go.Ground.data }, { on := 16, ground := Go.Ground.data }], guard := none }
def mop18 : Oper :=
  { dst := some 51, op := Go.Op.move (Go.Operand.tmp 50), type := 4, pos := "laws.go:192", after := #[{ on := 17, ground := Go.Ground.data }, { on := 15, ground := Go.Ground.chain }], guard := none }
def mop19 : Oper :=
  { dst := some 52, op := Go.Op.load 25 (Go.Operand.tmp 5), type := 25, pos := "laws.go:192", after := #[{ on := 18, ground := Go.Ground.guard }], guard := some (18, false) }
def mop20 : Oper :=
  { dst := some 53, op := Go.Op.load 25 (Go.Operand.tmp 4), type := 25, pos := "laws.go:192", after := #[{ on := 18, ground := Go.Ground.guard }], guard := some (18, false) }
def mop21 : Oper :=
  { dst := some 54, op := Go.Op.call { callee := Go.Callee.value (Go.Operand.func 22), args := #[Go.Operand.tmp 52, Go.Operand.tmp 53], argTypes := #[25, 25] }, type := 4, pos := "laws.go:192", after := #[{ on := 19, ground := Go.Ground.data }, { on := 20, ground := Go.Ground.data }, { on := 18, ground := Go.Ground.chain }, { on := 18, ground := Go.Ground.guard }], guard := some (18, false) }
def mop22 : Oper :=
  { dst := some 55, op := Go.Op.unOp Go.UnOp.not 4 (Go.Operand.tmp 54), type := 4, pos := "laws.go:192", after := #[{ on := 21, ground := Go.Ground.data }, { on := 18, ground := Go.Ground.guard }], guard := some (18, false) }
def mop23 : Oper :=
  { dst := some 56, op := Go.Op.pick (Go.Operand.tmp 51) (Go.Operand.const (Go.Value.bool true)) (Go.Operand.tmp 55), type := 4, pos := "laws.go:192", after := #[{ on := 18, ground := Go.Ground.data }, { on := 22, ground := Go.Ground.data }], guard := none }
def mop24 : Oper :=
  { dst := some 57, op := Go.Op.move (Go.Operand.tmp 56), type := 4, pos := "laws.go:192", after := #[{ on := 23, ground := Go.Ground.data }, { on := 21, ground := Go.Ground.chain }], guard := none }
def mop25 : Oper :=
  { dst := some 58, op := Go.Op.load 25 (Go.Operand.tmp 3), type := 25, pos := "laws.go:192", after := #[{ on := 24, ground := Go.Ground.guard }], guard := some (24, false) }
def mop26 : Oper :=
  { dst := some 59, op := Go.Op.load 25 (Go.Operand.tmp 4), type := 25, pos := "laws.go:192", after := #[{ on := 24, ground := Go.Ground.guard }], guard := some (24, false) }
def mop27 : Oper :=
  { dst := some 60, op := Go.Op.call { callee := Go.Callee.value (Go.Operand.func 22), args := #[Go.Operand.tmp 58, Go.Operand.tmp 59], argTypes := #[25, 25] }, type := 4, pos := "laws.go:192", after := #[{ on := 25, ground := Go.Ground.data }, { on := 26, ground := Go.Ground.data }, { on := 24, ground := Go.Ground.chain }, { on := 24, ground := Go.Ground.guard }], guard := some (24, false) }
def mop28 : Oper :=
  { dst := some 61, op := Go.Op.load 25 (Go.Operand.tmp 5), type := 25, pos := "laws.go:192", after := #[{ on := 24, ground := Go.Ground.guard }], guard := some (24, false) }
def mop29 : Oper :=
  { dst := some 62, op := Go.Op.load 25 (Go.Operand.tmp 3), type := 25, pos := "laws.go:192", after := #[{ on := 24, ground := Go.Ground.guard }], guard := some (24, false) }
def mop30 : Oper :=
  { dst := some 63, op := Go.Op.call { callee := Go.Callee.value (Go.Operand.func 21), args := #[Go.Operand.tmp 61, Go.Operand.tmp 62], argTypes := #[25, 25] }, type := 4, pos := "laws.go:192", after := #[{ on := 28, ground := Go.Ground.data }, { on := 29, ground := Go.Ground.data }, { on := 27, ground := Go.Ground.chain }, { on := 24, ground := Go.Ground.guard }], guard := some (24, false) }
def mop31 : Oper :=
  { dst := some 64, op := Go.Op.binOp Go.BinOp.neq 4 (Go.Operand.tmp 60) (Go.Operand.tmp 63) 4, type := 4, pos := "laws.go:192", after := #[{ on := 27, ground := Go.Ground.data }, { on := 30, ground := Go.Ground.data }, { on := 24, ground := Go.Ground.guard }], guard := some (24, false) }
def mop32 : Oper :=
  { dst := some 65, op := Go.Op.pick (Go.Operand.tmp 57) (Go.Operand.const (Go.Value.bool true)) (Go.Operand.tmp 64), type := 4, pos := "laws.go:192", after := #[{ on := 24, ground := Go.Ground.data }, { on := 31, ground := Go.Ground.data }], guard := none }
def mor0 : Oper :=
  { dst := some 75, op := Go.Op.load 25 (Go.Operand.tmp 5), type := 25, pos := "laws.go:197", after := #[], guard := none }
def mor1 : Oper :=
  { dst := some 76, op := Go.Op.call { callee := Go.Callee.value (Go.Operand.func 12), args := #[Go.Operand.tmp 75], argTypes := #[25] }, type := 4, pos := "laws.go:197", after := #[{ on := 0, ground := Go.Ground.data }], guard := none }
def mor2 : Oper :=
  { dst := some 77, op := Go.Op.unOp Go.UnOp.not 4 (Go.Operand.tmp 76), type := 4, pos := "laws.go:197", after := #[{ on := 1, ground := Go.Ground.data }], guard := none }
def mor3 : Oper :=
  { dst := some 78, op := Go.Op.move (Go.Operand.tmp 77), type := 4, pos := "laws.go:197", after := #[{ on := 2, ground := Go.Ground.data }, { on := 1, ground := Go.Ground.chain }], guard := none }
def mor4 : Oper :=
  { dst := some 79, op := Go.Op.load 25 (Go.Operand.tmp 5), type := 25, pos := "laws.go:197", after := #[{ on := 3, ground := Go.Ground.guard }], guard := some (3, true) }
def mor5 : Oper :=
  { dst := some 80, op := Go.Op.load 31 (Go.Operand.tmp 10), type := 31, pos := "laws.go:197", after := #[{ on := 3, ground := Go.Ground.guard }], guard := some (3, true) }
def mor6 : Oper :=
  { dst := some 81, op := Go.Op.call { callee := Go.Callee.value (Go.Operand.func 13), args := #[Go.Operand.tmp 79, Go.Operand.tmp 80], argTypes := #[25, 31] }, type := 4, pos := "laws.go:197", after := #[{ on := 4, ground := Go.Ground.data }, { on := 5, ground := Go.Ground.data }, { on := 3, ground := Go.Ground.chain }, { on := 3, ground := Go.Ground.guard }], guard := some (3, true) }
def mor7 : Oper :=
  { dst := some 82, op := Go.Op.load 25 (Go.Operand.tmp 3), type := 25, pos := "laws.go:197", after := #[{ on := 3, ground := Go.Ground.guard }], guard := some (3, true) }
def mor8 : Oper :=
  { dst := some 83, op := Go.Op.load 31 (Go.Operand.tmp 10), type := 31, pos := "laws.go:197", after := #[{ on := 3, ground := Go.Ground.guard }], guard := some (3, true) }
def mor9 : Oper :=
  { dst := some 84, op := Go.Op.call { callee := Go.Callee.value (Go.Operand.func 13), args := #[Go.Operand.tmp 82, Go.Operand.tmp 83], argTypes := #[25, 31] }, type := 4, pos := "laws.go:197", after := #[{ on := 7, ground := Go.Ground.data }, { on := 8, ground := Go.Ground.data }, { on := 6, ground := Go.Ground.chain }, { on := 3, ground := Go.Ground.guard }], guard := some (3, true) }
def mor10 : Oper :=
  { dst := some 85, op := Go.Op.move (Go.Operand.tmp 84), type := 4, pos := "laws.go:197", after := #[{ on := 9, ground := Go.Ground.data }, { on := 9, ground := Go.Ground.chain }, { on := 3, ground := Go.Ground.guard }], guard := some (3, true) }
def mor11 : Oper :=
  { dst := some 86, op := Go.Op.load 25 (Go.Operand.tmp 4), type := 25, pos := "laws.go:197", after := #[{ on := 10, ground := Go.Ground.guard }], guard := some (10, true) }
def mor12 : Oper :=
  { dst := some 87, op := Go.Op.load 31 (Go.Operand.tmp 10), type := 31, pos := "laws.go:197", after := #[{ on := 10, ground := Go.Ground.guard }], guard := some (10, true) }
def mor13 : Oper :=
  { dst := some 88, op := Go.Op.call { callee := Go.Callee.value (Go.Operand.func 13), args := #[Go.Operand.tmp 86, Go.Operand.tmp 87], argTypes := #[25, 31] }, type := 4, pos := "laws.go:197", after := #[{ on := 11, ground := Go.Ground.data }, { on := 12, ground := Go.Ground.data }, { on := 10, ground := Go.Ground.chain }, { on := 10, ground := Go.Ground.guard }], guard := some (10, true) }
def mor14 : Oper :=
  { dst := some 89, op := Go.Op.pick (Go.Operand.tmp 85) (Go.Operand.tmp 88) (Go.Operand.const (Go.Value.bool false)), type := 4, pos := "laws.go:197", after := #[{ on := 10, ground := Go.Ground.data }, { on := 13, ground := Go.Ground.data }, { on := 3, ground := Go.Ground.guard }], guard := some (3, true) }
def mor15 : Oper :=
  { dst := some 90, op := Go.Op.binOp Go.BinOp.neq 4 (Go.Operand.tmp 81) (Go.Operand.tmp 89) 4, type := 4, pos := "laws.go:197", after := #[{ on := 6, ground := Go.Ground.data }, { on := 14, ground := Go.Ground.data }, { on := 3, ground := Go.Ground.guard }], guard := some (3, true) }
def mor16 : Oper :=
  { dst := some 91, op := Go.Op.pick (Go.Operand.tmp 78) (Go.Operand.tmp 90) (Go.Operand.const (Go.Value.bool false)), type := 4, pos := "laws.go:197", after := #[{ on := 3, ground := Go.Ground.data }, { on := 15, ground := Go.Ground.data }], guard := none }
def mos0 : Oper :=
  { dst := some 102, op := Go.Op.move (Go.Operand.tmp 13), type := 4, pos := "laws.go:203", after := #[], guard := none }
def mos1 : Oper :=
  { dst := some 103, op := Go.Op.move (Go.Operand.tmp 102), type := 4, pos := "laws.go:203", after := #[{ on := 0, ground := Go.Ground.data }], guard := none }
def mos2 : Oper :=
  { dst := some 104, op := Go.Op.load 25 (Go.Operand.tmp 5), type := 25, pos := "laws.go:203", after := #[{ on := 1, ground := Go.Ground.guard }], guard := some (1, true) }
def mos3 : Oper :=
  { dst := some 105, op := Go.Op.load 25 (Go.Operand.tmp 12), type := 25, pos := "laws.go:203", after := #[{ on := 1, ground := Go.Ground.guard }], guard := some (1, true) }
def mos4 : Oper :=
  { dst := some 106, op := Go.Op.call { callee := Go.Callee.value (Go.Operand.func 22), args := #[Go.Operand.tmp 104, Go.Operand.tmp 105], argTypes := #[25, 25] }, type := 4, pos := "laws.go:203", after := #[{ on := 2, ground := Go.Ground.data }, { on := 3, ground := Go.Ground.data }, { on := 1, ground := Go.Ground.chain }, { on := 1, ground := Go.Ground.guard }], guard := some (1, true) }
def mos5 : Oper :=
  { dst := some 107, op := Go.Op.pick (Go.Operand.tmp 103) (Go.Operand.tmp 106) (Go.Operand.const (Go.Value.bool false)), type := 4, pos := "laws.go:203", after := #[{ on := 1, ground := Go.Ground.data }, { on := 4, ground := Go.Ground.data }], guard := none }
def mos6 : Oper :=
  { dst := some 108, op := Go.Op.move (Go.Operand.tmp 107), type := 4, pos := "laws.go:203", after := #[{ on := 5, ground := Go.Ground.data }, { on := 4, ground := Go.Ground.chain }], guard := none }
def mos7 : Oper :=
  { dst := some 109, op := Go.Op.load 25 (Go.Operand.tmp 12), type := 25, pos := "laws.go:203", after := #[{ on := 6, ground := Go.Ground.guard }], guard := some (6, true) }
def mos8 : Oper :=
  { dst := some 110, op := Go.Op.load 25 (Go.Operand.tmp 4), type := 25, pos := "laws.go:203", after := #[{ on := 6, ground := Go.Ground.guard }], guard := some (6, true) }
def mos9 : Oper :=
  { dst := some 111, op := Go.Op.call { callee := Go.Callee.value (Go.Operand.func 22), args := #[Go.Operand.tmp 109, Go.Operand.tmp 110], argTypes := #[25, 25] }, type := 4, pos := "laws.go:203", after := #[{ on := 7, ground := Go.Ground.data }, { on := 8, ground := Go.Ground.data }, { on := 6, ground := Go.Ground.chain }, { on := 6, ground := Go.Ground.guard }], guard := some (6, true) }
def mos10 : Oper :=
  { dst := some 112, op := Go.Op.pick (Go.Operand.tmp 108) (Go.Operand.tmp 111) (Go.Operand.const (Go.Value.bool false)), type := 4, pos := "laws.go:203", after := #[{ on := 6, ground := Go.Ground.data }, { on := 9, ground := Go.Ground.data }], guard := none }
def mos11 : Oper :=
  { dst := some 113, op := Go.Op.move (Go.Operand.tmp 112), type := 4, pos := "laws.go:203", after := #[{ on := 10, ground := Go.Ground.data }, { on := 9, ground := Go.Ground.chain }], guard := none }
def mos12 : Oper :=
  { dst := some 114, op := Go.Op.load 25 (Go.Operand.tmp 5), type := 25, pos := "laws.go:203", after := #[{ on := 11, ground := Go.Ground.guard }], guard := some (11, true) }
def mos13 : Oper :=
  { dst := some 115, op := Go.Op.call { callee := Go.Callee.value (Go.Operand.func 19), args := #[Go.Operand.tmp 114], argTypes := #[25] }, type := 3, pos := "laws.go:203", after := #[{ on := 12, ground := Go.Ground.data }, { on := 11, ground := Go.Ground.chain }, { on := 11, ground := Go.Ground.guard }], guard := some (11, true) }
def mos14 : Oper :=
  { dst := some 116, op := Go.Op.load 25 (Go.Operand.tmp 4), type := 25, pos := "laws.go:203", after := #[{ on := 11, ground := Go.Ground.guard }], guard := some (11, true) }
def mos15 : Oper :=
  { dst := some 117, op := Go.Op.call { callee := Go.Callee.value (Go.Operand.func 19), args := #[Go.Operand.tmp 116], argTypes := #[25] }, type := 3, pos := "laws.go:203", after := #[{ on := 14, ground := Go.Ground.data }, { on := 13, ground := Go.Ground.chain }, { on := 11, ground := Go.Ground.guard }], guard := some (11, true) }
def mos16 : Oper :=
  { dst := some 118, op := Go.Op.binOp Go.BinOp.leq 3 (Go.Operand.tmp 115) (Go.Operand.tmp 117) 3, type := 4, pos := "laws.go:203", after := #[{ on := 13, ground := Go.Ground.data }, { on := 15, ground := Go.Ground.data }, { on := 11, ground := Go.Ground.guard }], guard := some (11, true) }
def mos17 : Oper :=
  { dst := some 119, op := Go.Op.pick (Go.Operand.tmp 113) (Go.Operand.tmp 118) (Go.Operand.const (Go.Value.bool false)), type := 4, pos := "laws.go:203", after := #[{ on := 11, ground := Go.Ground.data }, { on := 16, ground := Go.Ground.data }], guard := none }
def mos18 : Oper :=
  { dst := some 2, op := Go.Op.assign (Go.Operand.tmp 119), type := 4, pos := "laws.go:203", after := #[{ on := 17, ground := Go.Ground.data }, { on := 15, ground := Go.Ground.chain }, { on := 0, ground := Go.Ground.phase }, { on := 1, ground := Go.Ground.phase }, { on := 2, ground := Go.Ground.phase }, { on := 3, ground := Go.Ground.phase }, { on := 4, ground := Go.Ground.phase }, { on := 5, ground := Go.Ground.phase }, { on := 6, ground := Go.Ground.phase }, { on := 7, ground := Go.Ground.phase }, { on := 8, ground := Go.Ground.phase }, { on := 9, ground := Go.Ground.phase }, { on := 10, ground := Go.Ground.phase }, { on := 11, ground := Go.Ground.phase }, { on := 12, ground := Go.Ground.phase }, { on := 13, ground := Go.Ground.phase }, { on := 14, ground := Go.Ground.phase }, { on := 15, ground := Go.Ground.phase }, { on := 16, ground := Go.Ground.phase }, { on := 17, ground := Go.Ground.phase }], guard := none }
set_option maxRecDepth 100000 in
set_option maxHeartbeats 6400000 in
theorem law_meets (a : Option Addr) (len cap : Nat) (w : World) (_hm : len ≤ maxLen) (hB : BytesAt w a len) :
    Calls Try.prog 4 #[.slice a len cap] w fun e w' => e = .returned (.bool true) ∧ Below w.heap.size w w' := by
  by_cases hle : (1048576 : Int) < (len : Int)
  · go_enter Try.func4, Try.ntmps4
    go_wp2
    go_ret
    exact ⟨rfl, Below.refl _ _⟩
  have HB := Lib.hid hB
  have hl : len ≤ 1048576 := by omega
  clear hB
  go_enter Try.func4, Try.ntmps4
  go_wp2_with fail
  refine (make_area w a len cap 1 (by omega) hl HB.out).mono ?_
  rintro e w1 ⟨ps, x0, y0, u0, v0, ap, cp, hAF, rfl, ho1, bl⟩
  have HFps := Lib.hid hAF
  have Hps0 := Lib.hid (own_hs ho1)
  have HZps := Lib.hid (own_nil ho1)
  clear hAF ho1
  obtain ⟨p, hp⟩ : ∃ p, ps.length = p := ⟨_, rfl⟩
  rw [hp] at HZps ⊢
  have HLps := Lib.hid hp
  clear hp
  have b0 := bl
  clear bl
  have bN := below_one w1 (.cells #[.slice ap p cp] 25)
  have BP0 := blk_new w1 #[.slice ap p cp] 25 rfl
  have b_1 := below_to b0 bN
  have Hps_2 := Lib.hid (Hps0.out.below bN)
  clear b0 Hps0
  clear bN
  go_wp2_with fail
  generalize w1.alloc (.cells #[.slice ap p cp] 25) = U1 at *
  obtain ⟨bp, hbk⟩ : ∃ b, w1.heap.size = b := ⟨_, rfl⟩
  rw [hbk] at BP0 ⊢
  clear hbk
  refine (make_area U1 a len cap 30 (by omega) hl (HB.out.below b_1)).mono ?_
  rintro e w2 ⟨qs, x1, y1, u1, v1, aq, cq, hAF, rfl, ho1, bl⟩
  have HFqs := Lib.hid hAF
  have Hqs0 := Lib.hid (own_hs ho1)
  have HZqs := Lib.hid (own_nil ho1)
  clear hAF ho1
  obtain ⟨q, hp⟩ : ∃ p, qs.length = p := ⟨_, rfl⟩
  rw [hp] at HZqs ⊢
  have HLqs := Lib.hid hp
  clear hp
  have b_3 := below_to b_1 bl
  have Hps_4 := Lib.hid (Hps_2.out.below bl)
  have BP_5 := BP0.to bl
  clear b_1 Hps_2 BP0
  clear bl
  have HRps := Lib.hid HFps.out.1
  have HNps := Lib.hid HFps.out.2.1
  have hpl : p ≤ 10 := by have := HFps.out.2.2.1; have := HLps.out; omega
  have H64ps := Lib.hid (fun h hh => ok_in64 (rok_all HRps.out h hh))
  have HRqs := Lib.hid HFqs.out.1
  have HNqs := Lib.hid HFqs.out.2.1
  have hql : q ≤ 10 := by have := HFqs.out.2.2.1; have := HLqs.out; omega
  have H64qs := Lib.hid (fun h hh => ok_in64 (rok_all HRqs.out h hh))
  obtain ⟨f1, f2, f3, f4, f5, f6, f7, f8, f9⟩ := meet_facts HFps.out HFqs.out
  have HMB := Lib.hid f1
  have HMR := Lib.hid f4
  have HW1 := Lib.hid f5
  have HW2 := Lib.hid f6
  have HW3 := Lib.hid f7
  have HHA := Lib.hid f8
  have HCU := Lib.hid f9
  clear f4 f5 f6 f7 f8 f9
  have bN := below_one w2 (.cells #[.slice aq q cq] 25)
  have BQ0 := blk_new w2 #[.slice aq q cq] 25 rfl
  have b_6 := below_to b_3 bN
  have Hps_7 := Lib.hid (Hps_4.out.below bN)
  have BP_8 := BP_5.to bN
  have Hqs_9 := Lib.hid (Hqs0.out.below bN)
  clear b_3 Hps_4 BP_5 Hqs0
  clear bN
  have q0 := BP_8.cell0 (i := 0) rfl
  go_wp2_with fail
  clear q0
  generalize w2.alloc (.cells #[.slice aq q cq] 25) = U2 at *
  obtain ⟨bq, hbk⟩ : ∃ b, w2.heap.size = b := ⟨_, rfl⟩
  rw [hbk] at BQ0 ⊢
  clear hbk
  have HMT := Lib.hid (fun V (h : HsAt V ap ps) (k : HsAt V aq qs) => impl_met ap aq p q cp cq ps qs V HLps.out HLqs.out (by omega) (by omega) H64ps.out H64qs.out h k)
  have HMU := Lib.hid (fun V (h : HsAt V ap ps) (k : HsAt V aq qs) => impl_met aq ap q p cq cp qs ps V HLqs.out HLps.out (by omega) (by omega) H64qs.out H64ps.out k h)
  rw [f1] at HMT
  rw [f2, f3] at HMU
  have hml : (metL ps qs).length ≤ 40 := rok_len HMR.out
  clear f1 f2 f3
  generalize metL ps qs = ms at *
  have M64 := Lib.hid (fun h hh => ok_in64 (rok_all HMR.out h hh))
  obtain ⟨m, hm⟩ : ∃ m, ms.length = m := ⟨_, rfl⟩
  unfold AnsR at HMT HMU
  rw [hm] at hml HMT HMU
  have HLm := Lib.hid hm
  clear hm
  have q0 := BP_8.cell0 (i := 0) rfl
  have q1 := BQ0.cell0 (i := 0) rfl
  try go_wp2_with fail
  clear q0 q1
  refine (HMT.out _ Hps_7.out Hqs_9.out).mono ?_
  rintro e w3 ⟨am, cm, rfl, hom, bl⟩
  have Hms0 := Lib.hid (own_hs hom)
  clear hom
  have b_10 := below_to b_6 bl
  have Hps_11 := Lib.hid (Hps_7.out.below bl)
  have BP_12 := BP_8.to bl
  have Hqs_13 := Lib.hid (Hqs_9.out.below bl)
  have BQ_14 := BQ0.to bl
  clear b_6 Hps_7 BP_8 Hqs_9 BQ0
  clear bl
  have bN := below_one w3 (.cells #[.slice am m cm] 25)
  have BM0 := blk_new w3 #[.slice am m cm] 25 rfl
  have b_15 := below_to b_10 bN
  have Hps_16 := Lib.hid (Hps_11.out.below bN)
  have BP_17 := BP_12.to bN
  have Hqs_18 := Lib.hid (Hqs_13.out.below bN)
  have BQ_19 := BQ_14.to bN
  have Hms_20 := Lib.hid (Hms0.out.below bN)
  clear b_10 Hps_11 BP_12 Hqs_13 BQ_14 Hms0
  clear bN
  have q0 := BQ_19.cell0 (i := 0) rfl
  have q1 := BP_17.cell0 (i := 0) rfl
  go_wp2_with fail
  clear q0 q1
  generalize w3.alloc (.cells #[.slice am m cm] 25) = U3 at *
  obtain ⟨bm, hbk⟩ : ∃ b, w3.heap.size = b := ⟨_, rfl⟩
  rw [hbk] at BM0 ⊢
  clear hbk
  refine (HMU.out _ Hps_16.out Hqs_18.out).mono ?_
  rintro e w4 ⟨an, cn, rfl, hon, bl⟩
  have Hns0 := Lib.hid (own_hs hon)
  clear hon
  have b_21 := below_to b_15 bl
  have Hps_22 := Lib.hid (Hps_16.out.below bl)
  have BP_23 := BP_17.to bl
  have Hqs_24 := Lib.hid (Hqs_18.out.below bl)
  have BQ_25 := BQ_19.to bl
  have Hms_26 := Lib.hid (Hms_20.out.below bl)
  have BM_27 := BM0.to bl
  clear b_15 Hps_16 BP_17 Hqs_18 BQ_19 Hms_20 BM0
  clear bl
  have bN := below_one w4 (.cells #[.slice an m cn] 25)
  have BN0 := blk_new w4 #[.slice an m cn] 25 rfl
  have b_28 := below_to b_21 bN
  have Hps_29 := Lib.hid (Hps_22.out.below bN)
  have BP_30 := BP_23.to bN
  have Hqs_31 := Lib.hid (Hqs_24.out.below bN)
  have BQ_32 := BQ_25.to bN
  have Hms_33 := Lib.hid (Hms_26.out.below bN)
  have BM_34 := BM_27.to bN
  have Hns_35 := Lib.hid (Hns0.out.below bN)
  clear b_21 Hps_22 BP_23 Hqs_24 BQ_25 Hms_26 BM_27 Hns0
  clear bN
  go_wp2_with fail
  generalize w4.alloc (.cells #[.slice an m cn] 25) = U4 at *
  obtain ⟨bn, hbk⟩ : ∃ b, w4.heap.size = b := ⟨_, rfl⟩
  rw [hbk] at BN0 ⊢
  clear hbk
  have HSM := Lib.hid (fun V (h : HsAt V am ms) (k : HsAt V an ms) => impl_rsame am an m m cm cn ms ms V HLm.out HLm.out (by omega) h k)
  rw [show sameB ms ms = true by unfold sameB; simp] at HSM
  have HWA := Lib.hid (fun V (h : HsAt V am ms) (k : HsAt V ap ps) => impl_wi am ap m p cm cp ms ps V HLm.out HLps.out (by omega) (by omega) M64.out H64ps.out h k)
  rw [HW1.out] at HWA
  have HWB := Lib.hid (fun V (h : HsAt V am ms) (k : HsAt V aq qs) => impl_wi am aq m q cm cq ms qs V HLm.out HLqs.out (by omega) (by omega) M64.out H64qs.out h k)
  rw [HW2.out] at HWB
  have HWC := Lib.hid (fun V (h : HsAt V ap ps) (k : HsAt V aq qs) => impl_wi ap aq p q cp cq ps qs V HLps.out HLqs.out (by omega) (by omega) H64ps.out H64qs.out h k)
  rw [HW3.out] at HWC
  have HSP := Lib.hid (fun V (h : HsAt V am ms) (k : HsAt V ap ps) => impl_rsame am ap m p cm cp ms ps V HLm.out HLps.out (by omega) h k)
  generalize sameB ms ps = sb at *
  go_cut [65] from 33 to 65 (fun s6 wx => s6 = .bool false ∧ Below U4.heap.size U4 wx)
  case first =>
    refine wp_region_held_drew (S := (fun w' => w'.cell? ⟨bp, 0, none⟩ = some (.slice ap p cp) ∧ w'.cell? ⟨bq, 0, none⟩ = some (.slice aq q cq) ∧ w'.cell? ⟨bm, 0, none⟩ = some (.slice am m cm) ∧ w'.cell? ⟨bn, 0, none⟩ = some (.slice an m cn))) (by kernel_rfl) ?_ (fun hHeld => ?_)
    · (refine keepb4 BP_30 BQ_32 BM_34 BN0 ?_; repeat (first | exact Below.refl _ _ | refine below_drw ?_ | refine below_to ?_ (by assumption)))
    refine wpAnyH_take (i := 0) (oi := mop0) (v := ?_) rfl (by as_aux_lemma => kernel_rfl) (by as_aux_lemma => kernel_rfl) (by as_aux_lemma => kernel_rfl) (fun _ _ _ h => h) (Or.inl ⟨by rfl, ?_⟩) (by assumption) ?_
    rotate_left
    · unfold mop0; intro w hSw; (try dsimp only at hSw); go_simp; try (with_reducible rfl)
    try simp only [mop0, Act.put, List.setIfInBounds_toArray, List.set_cons_zero, List.set_cons_succ]
    refine wpAnyH_take (i := 1) (oi := mop1) (v := ?_) rfl (by as_aux_lemma => kernel_rfl) (by as_aux_lemma => kernel_rfl) (by as_aux_lemma => kernel_rfl) (fun _ _ _ h => h) (Or.inl ⟨by rfl, ?_⟩) (by assumption) ?_
    rotate_left
    · unfold mop1; intro w hSw; (try dsimp only at hSw); go_simp; try (with_reducible rfl)
    try simp only [mop1, Act.put, List.setIfInBounds_toArray, List.set_cons_zero, List.set_cons_succ]
    refine wpAnyH_take (i := 2) (oi := mop2) (v := ?_) rfl (by as_aux_lemma => kernel_rfl) (by as_aux_lemma => kernel_rfl) (by as_aux_lemma => kernel_rfl) (fun _ _ _ h => h) (Or.inl ⟨by rfl, ?_⟩) (by assumption) ?_
    rotate_left
    · unfold mop2; intro w hSw; (try dsimp only at hSw); go_simp; try (with_reducible rfl)
    try simp only [mop2, Act.put, List.setIfInBounds_toArray, List.set_cons_zero, List.set_cons_succ]
    refine wpAnyH_take (i := 3) (oi := mop3) (v := ?_) rfl (by as_aux_lemma => kernel_rfl) (by as_aux_lemma => kernel_rfl) (by as_aux_lemma => kernel_rfl) (fun _ _ _ h => h) (Or.inl ⟨by rfl, ?_⟩) (by assumption) ?_
    rotate_left
    · unfold mop3; intro w hSw; (try dsimp only at hSw); go_simp; try (with_reducible rfl)
    try simp only [mop3, Act.put, List.setIfInBounds_toArray, List.set_cons_zero, List.set_cons_succ]
    refine wpAnyH_take (i := 4) (oi := mop4) (v := ?_) rfl (by as_aux_lemma => kernel_rfl) (by as_aux_lemma => kernel_rfl) (by as_aux_lemma => kernel_rfl) (fun _ _ _ h => h) (Or.inl ⟨by rfl, ?_⟩) (by assumption) ?_
    rotate_left
    · unfold mop4; intro w hSw; (try dsimp only at hSw); go_simp; try (with_reducible rfl)
    try simp only [mop4, Act.put, List.setIfInBounds_toArray, List.set_cons_zero, List.set_cons_succ]
    refine wpAnyH_take (i := 5) (oi := mop5) (v := ?_) rfl (by as_aux_lemma => kernel_rfl) (by as_aux_lemma => kernel_rfl) (by as_aux_lemma => kernel_rfl) (fun _ _ _ h => h) (Or.inl ⟨by rfl, ?_⟩) (by assumption) ?_
    rotate_left
    · unfold mop5; intro w hSw; (try dsimp only at hSw); go_simp; try (with_reducible rfl)
    try simp only [mop5, Act.put, List.setIfInBounds_toArray, List.set_cons_zero, List.set_cons_succ]
    refine wpAnyH_take (i := 6) (oi := mop6) (v := ?_) rfl (by as_aux_lemma => kernel_rfl) (by as_aux_lemma => kernel_rfl) (by as_aux_lemma => kernel_rfl) (fun _ _ _ h => h) (Or.inl ⟨by rfl, ?_⟩) (by assumption) ?_
    rotate_left
    · unfold mop6; intro w hSw; (try dsimp only at hSw); go_simp; try (with_reducible rfl)
    try simp only [mop6, Act.put, List.setIfInBounds_toArray, List.set_cons_zero, List.set_cons_succ]
    refine wpAnyH_take (i := 7) (oi := mop7) (v := ?_) rfl (by as_aux_lemma => kernel_rfl) (by as_aux_lemma => kernel_rfl) (by as_aux_lemma => kernel_rfl) (fun _ _ _ h => h) (Or.inl ⟨by rfl, ?_⟩) (by assumption) ?_
    rotate_left
    · unfold mop7; intro w hSw; (try dsimp only at hSw); go_simp; try (with_reducible rfl)
    try simp only [mop7, Act.put, List.setIfInBounds_toArray, List.set_cons_zero, List.set_cons_succ]
    refine wpAnyH_take (i := 8) (oi := mop8) (v := ?_) rfl (by as_aux_lemma => kernel_rfl) (by as_aux_lemma => kernel_rfl) (by as_aux_lemma => kernel_rfl) (fun _ _ _ h => h) (Or.inl ⟨by rfl, ?_⟩) (by assumption) ?_
    rotate_left
    · unfold mop8; intro w hSw; (try dsimp only at hSw); go_simp; try (with_reducible rfl)
    try simp only [mop8, Act.put, List.setIfInBounds_toArray, List.set_cons_zero, List.set_cons_succ]
    refine wpAnyH_ready (rs := [9]) (by as_aux_lemma => kernel_rfl) (by simp) ?_
    refine (AllReadyH.cons (o := mop9) rfl (fun K hK => ?_) AllReadyH.nil)
    unfold mop9
    go_simp
    (go_at_call 21; (with_reducible refine (HSM.out _ ?_ ?_).mono ?_); (focus ((refine Hms_33.out.below ?_); repeat (first | exact Below.refl _ _ | refine below_drw ?_ | refine below_to ?_ (by assumption)))); (focus ((refine Hns_35.out.below ?_); repeat (first | exact Below.refl _ _ | refine below_drw ?_ | refine below_to ?_ (by assumption)))); rintro e z0 ⟨rfl, bl0⟩)
    try go_wp2_with fail
    refine hK.out _ _ ?_ (fun hHeld2 => ?_)
    · (refine keepb4 BP_30 BQ_32 BM_34 BN0 ?_; repeat (first | exact Below.refl _ _ | refine below_drw ?_ | refine below_to ?_ (by assumption)))
    clear hK K hHeld
    have hHeld := hHeld2
    clear hHeld2
    try simp only [mop9, Act.put, List.setIfInBounds_toArray, List.set_cons_zero, List.set_cons_succ]
    as_aux_lemma =>
     refine wpAnyH_take (i := 10) (oi := mop10) (v := ?_) rfl (by as_aux_lemma => kernel_rfl) (by as_aux_lemma => kernel_rfl) (by as_aux_lemma => kernel_rfl) (fun _ _ _ h => h) (Or.inl ⟨by rfl, ?_⟩) (by assumption) ?_
     rotate_left
     · unfold mop10; intro w hSw; (try dsimp only at hSw); go_simp; try (with_reducible rfl)
     try simp only [mop10, Act.put, List.setIfInBounds_toArray, List.set_cons_zero, List.set_cons_succ]
     refine wpAnyH_take (i := 11) (oi := mop11) (v := ?_) rfl (by as_aux_lemma => kernel_rfl) (by as_aux_lemma => kernel_rfl) (by as_aux_lemma => kernel_rfl) (fun _ _ _ h => h) (Or.inl ⟨by rfl, ?_⟩) (by assumption) ?_
     rotate_left
     · unfold mop11; intro w hSw; (try dsimp only at hSw); go_simp; try (with_reducible rfl)
     try simp only [mop11, Act.put, List.setIfInBounds_toArray, List.set_cons_zero, List.set_cons_succ]
     refine wpAnyH_take (i := 12) (oi := mop12) (v := ?_) rfl (by as_aux_lemma => kernel_rfl) (by as_aux_lemma => kernel_rfl) (by as_aux_lemma => kernel_rfl) (fun _ _ _ h => h) (Or.inl ⟨by rfl, ?_⟩) (by assumption) ?_
     rotate_left
     · unfold mop12; intro w hSw; (try dsimp only at hSw); go_simp; try (with_reducible rfl)
     try simp only [mop12, Act.put, List.setIfInBounds_toArray, List.set_cons_zero, List.set_cons_succ]
     refine wpAnyH_take (i := 13) (oi := mop13) (v := ?_) rfl (by as_aux_lemma => kernel_rfl) (by as_aux_lemma => kernel_rfl) (by as_aux_lemma => kernel_rfl) (fun _ _ _ h => h) (Or.inl ⟨by rfl, ?_⟩) (by assumption) ?_
     rotate_left
     · unfold mop13; intro w hSw; (try dsimp only at hSw); go_simp; try (with_reducible rfl)
     try simp only [mop13, Act.put, List.setIfInBounds_toArray, List.set_cons_zero, List.set_cons_succ]
     refine wpAnyH_take (i := 14) (oi := mop14) (v := ?_) rfl (by as_aux_lemma => kernel_rfl) (by as_aux_lemma => kernel_rfl) (by as_aux_lemma => kernel_rfl) (fun _ _ _ h => h) (Or.inl ⟨by rfl, ?_⟩) (by assumption) ?_
     rotate_left
     · unfold mop14; intro w hSw; (try dsimp only at hSw); go_simp; try (with_reducible rfl)
     try simp only [mop14, Act.put, List.setIfInBounds_toArray, List.set_cons_zero, List.set_cons_succ]
     refine wpAnyH_ready (rs := [15]) (by as_aux_lemma => kernel_rfl) (by simp) ?_
     refine (AllReadyH.cons (o := mop15) rfl (fun K hK => ?_) AllReadyH.nil)
     unfold mop15
     go_simp
     (go_at_call 22; (with_reducible refine (HWA.out _ ?_ ?_).mono ?_); (focus ((refine Hms_33.out.below ?_); repeat (first | exact Below.refl _ _ | refine below_drw ?_ | refine below_to ?_ (by assumption)))); (focus ((refine Hps_29.out.below ?_); repeat (first | exact Below.refl _ _ | refine below_drw ?_ | refine below_to ?_ (by assumption)))); rintro e z1 ⟨rfl, bl1⟩)
     try go_wp2_with fail
     refine hK.out _ _ ?_ (fun hHeld2 => ?_)
     · (refine keepb4 BP_30 BQ_32 BM_34 BN0 ?_; repeat (first | exact Below.refl _ _ | refine below_drw ?_ | refine below_to ?_ (by assumption)))
     clear hK K hHeld
     have hHeld := hHeld2
     clear hHeld2
     try simp only [mop15, Act.put, List.setIfInBounds_toArray, List.set_cons_zero, List.set_cons_succ]
     as_aux_lemma =>
      refine wpAnyH_take (i := 16) (oi := mop16) (v := ?_) rfl (by as_aux_lemma => kernel_rfl) (by as_aux_lemma => kernel_rfl) (by as_aux_lemma => kernel_rfl) (fun _ _ _ h => h) (Or.inl ⟨by rfl, ?_⟩) (by assumption) ?_
      rotate_left
      · unfold mop16; intro w hSw; (try dsimp only at hSw); go_simp; try (with_reducible rfl)
      try simp only [mop16, Act.put, List.setIfInBounds_toArray, List.set_cons_zero, List.set_cons_succ]
      refine wpAnyH_take (i := 17) (oi := mop17) (v := ?_) rfl (by as_aux_lemma => kernel_rfl) (by as_aux_lemma => kernel_rfl) (by as_aux_lemma => kernel_rfl) (fun _ _ _ h => h) (Or.inl ⟨by rfl, ?_⟩) (by assumption) ?_
      rotate_left
      · unfold mop17; intro w hSw; (try dsimp only at hSw); go_simp; try (with_reducible rfl)
      try simp only [mop17, Act.put, List.setIfInBounds_toArray, List.set_cons_zero, List.set_cons_succ]
      refine wpAnyH_take (i := 18) (oi := mop18) (v := ?_) rfl (by as_aux_lemma => kernel_rfl) (by as_aux_lemma => kernel_rfl) (by as_aux_lemma => kernel_rfl) (fun _ _ _ h => h) (Or.inl ⟨by rfl, ?_⟩) (by assumption) ?_
      rotate_left
      · unfold mop18; intro w hSw; (try dsimp only at hSw); go_simp; try (with_reducible rfl)
      try simp only [mop18, Act.put, List.setIfInBounds_toArray, List.set_cons_zero, List.set_cons_succ]
      refine wpAnyH_take (i := 19) (oi := mop19) (v := ?_) rfl (by as_aux_lemma => kernel_rfl) (by as_aux_lemma => kernel_rfl) (by as_aux_lemma => kernel_rfl) (fun _ _ _ h => h) (Or.inl ⟨by rfl, ?_⟩) (by assumption) ?_
      rotate_left
      · unfold mop19; intro w hSw; (try dsimp only at hSw); go_simp; try (with_reducible rfl)
      try simp only [mop19, Act.put, List.setIfInBounds_toArray, List.set_cons_zero, List.set_cons_succ]
      refine wpAnyH_take (i := 20) (oi := mop20) (v := ?_) rfl (by as_aux_lemma => kernel_rfl) (by as_aux_lemma => kernel_rfl) (by as_aux_lemma => kernel_rfl) (fun _ _ _ h => h) (Or.inl ⟨by rfl, ?_⟩) (by assumption) ?_
      rotate_left
      · unfold mop20; intro w hSw; (try dsimp only at hSw); go_simp; try (with_reducible rfl)
      try simp only [mop20, Act.put, List.setIfInBounds_toArray, List.set_cons_zero, List.set_cons_succ]
      refine wpAnyH_ready (rs := [21]) (by as_aux_lemma => kernel_rfl) (by simp) ?_
      refine (AllReadyH.cons (o := mop21) rfl (fun K hK => ?_) AllReadyH.nil)
      unfold mop21
      go_simp
      (go_at_call 22; (with_reducible refine (HWB.out _ ?_ ?_).mono ?_); (focus ((refine Hms_33.out.below ?_); repeat (first | exact Below.refl _ _ | refine below_drw ?_ | refine below_to ?_ (by assumption)))); (focus ((refine Hqs_31.out.below ?_); repeat (first | exact Below.refl _ _ | refine below_drw ?_ | refine below_to ?_ (by assumption)))); rintro e z2 ⟨rfl, bl2⟩)
      try go_wp2_with fail
      refine hK.out _ _ ?_ (fun hHeld2 => ?_)
      · (refine keepb4 BP_30 BQ_32 BM_34 BN0 ?_; repeat (first | exact Below.refl _ _ | refine below_drw ?_ | refine below_to ?_ (by assumption)))
      clear hK K hHeld
      have hHeld := hHeld2
      clear hHeld2
      try simp only [mop21, Act.put, List.setIfInBounds_toArray, List.set_cons_zero, List.set_cons_succ]
      as_aux_lemma =>
       refine wpAnyH_take (i := 22) (oi := mop22) (v := ?_) rfl (by as_aux_lemma => kernel_rfl) (by as_aux_lemma => kernel_rfl) (by as_aux_lemma => kernel_rfl) (fun _ _ _ h => h) (Or.inl ⟨by rfl, ?_⟩) (by assumption) ?_
       rotate_left
       · unfold mop22; intro w hSw; (try dsimp only at hSw); go_simp; try (with_reducible rfl)
       try simp only [mop22, Act.put, List.setIfInBounds_toArray, List.set_cons_zero, List.set_cons_succ]
       refine wpAnyH_take (i := 23) (oi := mop23) (v := ?_) rfl (by as_aux_lemma => kernel_rfl) (by as_aux_lemma => kernel_rfl) (by as_aux_lemma => kernel_rfl) (fun _ _ _ h => h) (Or.inl ⟨by rfl, ?_⟩) (by assumption) ?_
       rotate_left
       · unfold mop23; intro w hSw; (try dsimp only at hSw); go_simp; try (with_reducible rfl)
       try simp only [mop23, Act.put, List.setIfInBounds_toArray, List.set_cons_zero, List.set_cons_succ]
       refine wpAnyH_take (i := 24) (oi := mop24) (v := ?_) rfl (by as_aux_lemma => kernel_rfl) (by as_aux_lemma => kernel_rfl) (by as_aux_lemma => kernel_rfl) (fun _ _ _ h => h) (Or.inl ⟨by rfl, ?_⟩) (by assumption) ?_
       rotate_left
       · unfold mop24; intro w hSw; (try dsimp only at hSw); go_simp; try (with_reducible rfl)
       try simp only [mop24, Act.put, List.setIfInBounds_toArray, List.set_cons_zero, List.set_cons_succ]
       refine wpAnyH_take (i := 25) (oi := mop25) (v := ?_) rfl (by as_aux_lemma => kernel_rfl) (by as_aux_lemma => kernel_rfl) (by as_aux_lemma => kernel_rfl) (fun _ _ _ h => h) (Or.inl ⟨by rfl, ?_⟩) (by assumption) ?_
       rotate_left
       · unfold mop25; intro w hSw; (try dsimp only at hSw); go_simp; try (with_reducible rfl)
       try simp only [mop25, Act.put, List.setIfInBounds_toArray, List.set_cons_zero, List.set_cons_succ]
       refine wpAnyH_take (i := 26) (oi := mop26) (v := ?_) rfl (by as_aux_lemma => kernel_rfl) (by as_aux_lemma => kernel_rfl) (by as_aux_lemma => kernel_rfl) (fun _ _ _ h => h) (Or.inl ⟨by rfl, ?_⟩) (by assumption) ?_
       rotate_left
       · unfold mop26; intro w hSw; (try dsimp only at hSw); go_simp; try (with_reducible rfl)
       try simp only [mop26, Act.put, List.setIfInBounds_toArray, List.set_cons_zero, List.set_cons_succ]
       refine wpAnyH_take (i := 28) (oi := mop28) (v := ?_) rfl (by as_aux_lemma => kernel_rfl) (by as_aux_lemma => kernel_rfl) (by as_aux_lemma => kernel_rfl) (fun _ _ _ h => h) (Or.inl ⟨by rfl, ?_⟩) (by assumption) ?_
       rotate_left
       · unfold mop28; intro w hSw; (try dsimp only at hSw); go_simp; try (with_reducible rfl)
       try simp only [mop28, Act.put, List.setIfInBounds_toArray, List.set_cons_zero, List.set_cons_succ]
       refine wpAnyH_take (i := 29) (oi := mop29) (v := ?_) rfl (by as_aux_lemma => kernel_rfl) (by as_aux_lemma => kernel_rfl) (by as_aux_lemma => kernel_rfl) (fun _ _ _ h => h) (Or.inl ⟨by rfl, ?_⟩) (by assumption) ?_
       rotate_left
       · unfold mop29; intro w hSw; (try dsimp only at hSw); go_simp; try (with_reducible rfl)
       try simp only [mop29, Act.put, List.setIfInBounds_toArray, List.set_cons_zero, List.set_cons_succ]
       refine wpAnyH_ready (rs := [27]) (by as_aux_lemma => kernel_rfl) (by simp) ?_
       refine (AllReadyH.cons (o := mop27) rfl (fun K hK => ?_) AllReadyH.nil)
       unfold mop27
       go_simp
       (go_at_call 22; (with_reducible refine (HWC.out _ ?_ ?_).mono ?_); (focus ((refine Hps_29.out.below ?_); repeat (first | exact Below.refl _ _ | refine below_drw ?_ | refine below_to ?_ (by assumption)))); (focus ((refine Hqs_31.out.below ?_); repeat (first | exact Below.refl _ _ | refine below_drw ?_ | refine below_to ?_ (by assumption)))); rintro e z3 ⟨rfl, bl3⟩)
       try go_wp2_with fail
       refine hK.out _ _ ?_ (fun hHeld2 => ?_)
       · (refine keepb4 BP_30 BQ_32 BM_34 BN0 ?_; repeat (first | exact Below.refl _ _ | refine below_drw ?_ | refine below_to ?_ (by assumption)))
       clear hK K hHeld
       have hHeld := hHeld2
       clear hHeld2
       try simp only [mop27, Act.put, List.setIfInBounds_toArray, List.set_cons_zero, List.set_cons_succ]
       as_aux_lemma =>
        refine wpAnyH_ready (rs := [30]) (by as_aux_lemma => kernel_rfl) (by simp) ?_
        refine (AllReadyH.cons (o := mop30) rfl (fun K hK => ?_) AllReadyH.nil)
        unfold mop30
        go_simp
        (go_at_call 21; (with_reducible refine (HSP.out _ ?_ ?_).mono ?_); (focus ((refine Hms_33.out.below ?_); repeat (first | exact Below.refl _ _ | refine below_drw ?_ | refine below_to ?_ (by assumption)))); (focus ((refine Hps_29.out.below ?_); repeat (first | exact Below.refl _ _ | refine below_drw ?_ | refine below_to ?_ (by assumption)))); rintro e z4 ⟨rfl, bl4⟩)
        try go_wp2_with fail
        refine hK.out _ _ ?_ (fun hHeld2 => ?_)
        · (refine keepb4 BP_30 BQ_32 BM_34 BN0 ?_; repeat (first | exact Below.refl _ _ | refine below_drw ?_ | refine below_to ?_ (by assumption)))
        clear hK K hHeld
        have hHeld := hHeld2
        clear hHeld2
        try simp only [mop30, Act.put, List.setIfInBounds_toArray, List.set_cons_zero, List.set_cons_succ]
        as_aux_lemma =>
         refine wpAnyH_take (i := 31) (oi := mop31) (v := ?_) rfl (by as_aux_lemma => kernel_rfl) (by as_aux_lemma => kernel_rfl) (by as_aux_lemma => kernel_rfl) (fun _ _ _ h => h) (Or.inl ⟨by rfl, ?_⟩) (by assumption) ?_
         rotate_left
         · unfold mop31; intro w hSw; (try dsimp only at hSw); go_simp; try (with_reducible rfl)
         try simp only [mop31, Act.put, List.setIfInBounds_toArray, List.set_cons_zero, List.set_cons_succ]
         refine wpAnyH_take (i := 32) (oi := mop32) (v := ?_) rfl (by as_aux_lemma => kernel_rfl) (by as_aux_lemma => kernel_rfl) (by as_aux_lemma => kernel_rfl) (fun _ _ _ h => h) (Or.inl ⟨by rfl, ?_⟩) (by assumption) ?_
         rotate_left
         · unfold mop32; intro w hSw; (try dsimp only at hSw); go_simp; try (with_reducible rfl)
         try simp only [mop32, Act.put, List.setIfInBounds_toArray, List.set_cons_zero, List.set_cons_succ]
         refine wpAnyH_done (by kernel_rfl) ?_ _
         go_wp2_with fail
         go_meet
         refine ⟨by first | rfl | (cases sb <;> rfl), ?_⟩
         repeat (first | exact Below.refl _ _ | refine below_drw ?_ | refine below_to ?_ (by assumption))
  case rest =>
    obtain ⟨rfl, hb6⟩ := hcut
    rename World => wc
    clear BN0 Hns_35
    have b_36 := below_to b_28 hb6
    have Hps_37 := Lib.hid (Hps_29.out.below hb6)
    have BP_38 := BP_30.to hb6
    have Hqs_39 := Lib.hid (Hqs_31.out.below hb6)
    have BQ_40 := BQ_32.to hb6
    have Hms_41 := Lib.hid (Hms_33.out.below hb6)
    have BM_42 := BM_34.to hb6
    clear b_28 Hps_29 BP_30 Hqs_31 BQ_32 Hms_33 BM_34
    clear hb6 HSM HWA HWB HWC HSP HW3 HMT HMU
    go_wp2
    go_loopw [9] (fun i wr => ∃ k : Nat, k ≤ 12 ∧ i = .int .i64 k ∧ Below w.heap.size w wr ∧ Below wc.heap.size wc wr) (fun i _ => 12 - (intOf i).toNat)
    case atStart => exact ⟨0, by omega, rfl, b_36, Below.refl _ _⟩
    case round =>
      obtain ⟨k, hk, rfl, hbw, hb4⟩ := hrel
      clear b_36
      have Hps_43 := Lib.hid (Hps_37.out.below hb4)
      have BP_44 := BP_38.to hb4
      have Hqs_45 := Lib.hid (Hqs_39.out.below hb4)
      have BQ_46 := BQ_40.to hb4
      have Hms_47 := Lib.hid (Hms_41.out.below hb4)
      have BM_48 := BM_42.to hb4
      by_cases hk12 : k < 12
      · have v1 : IntKind.i64.wrap (4 * (k : Int)) = 4 * (k : Int) := IntWalk.i64_in _ (by omega)
        have v2 : IntKind.i64.wrap (60 + 4 * (k : Int)) = ((60 + 4 * k : Nat) : Int) := by rw [IntWalk.i64_in _ (by omega)]; omega
        have hkk : (k : Int) < 12 := by omega
        go_wp2_with fail
        refine (make_whole wr a len cap (60 + 4 * k) (by omega) hl (HB.out.below hbw)).mono ?_
        rintro e w7 ⟨X, Y, hXY, rfl, bl⟩
        clear v1 v2
        have Hps_49 := Lib.hid (Hps_43.out.below bl)
        have BP_50 := BP_44.to bl
        have Hqs_51 := Lib.hid (Hqs_45.out.below bl)
        have BQ_52 := BQ_46.to bl
        have Hms_53 := Lib.hid (Hms_47.out.below bl)
        have BM_54 := BM_48.to bl
        have b_55 := below_to hbw bl
        have b4_56 := below_to hb4 bl
        clear Hps_43 BP_44 Hqs_45 BQ_46 Hms_47 BM_48 hbw hb4
        clear bl
        have HSO := Lib.hid (whole_ok (x := X) (y := Y) (by omega) (by omega))
        clear hXY
        have HVD := Lib.hid (fun V => impl_void am m cm V)
        have HHM := Lib.hid (fun V (h : HsAt V am ms) => impl_has am m cm ms X Y 1 V HLm.out (by omega) M64.out (okS64' HSO.out) h)
        have HHP := Lib.hid (fun V (h : HsAt V ap ps) => impl_has ap p cp ps X Y 1 V HLps.out (by omega) H64ps.out (okS64' HSO.out) h)
        have HHQ := Lib.hid (fun V (h : HsAt V aq qs) => impl_has aq q cq qs X Y 1 V HLqs.out (by omega) H64qs.out (okS64' HSO.out) h)
        have HQ2 := Lib.hid (fun n => HHA.out X Y HSO.out n)
        generalize hasB ms X Y 1 = hm at *
        generalize hasB ps X Y 1 = hp at *
        generalize hasB qs X Y 1 = hq at *
        have bN := below_one w7 (.cells #[.int .i64 X, .int .i64 Y, .int .i64 1] 31)
        have BS0 := blk_new w7 #[.int .i64 X, .int .i64 Y, .int .i64 1] 31 rfl
        have Hps_57 := Lib.hid (Hps_49.out.below bN)
        have BP_58 := BP_50.to bN
        have Hqs_59 := Lib.hid (Hqs_51.out.below bN)
        have BQ_60 := BQ_52.to bN
        have Hms_61 := Lib.hid (Hms_53.out.below bN)
        have BM_62 := BM_54.to bN
        have b_63 := below_to b_55 bN
        have b4_64 := below_to b4_56 bN
        clear Hps_49 BP_50 Hqs_51 BQ_52 Hms_53 BM_54 b_55 b4_56
        clear bN
        go_wp2_with fail
        generalize w7.alloc (.cells #[.int .i64 X, .int .i64 Y, .int .i64 1] 31) = U5 at *
        obtain ⟨bs, hbk⟩ : ∃ b, w7.heap.size = b := ⟨_, rfl⟩
        rw [hbk] at BS0 ⊢
        clear hbk
        go_cut [91] from 75 to 91 (fun s6 wx => s6 = .bool false ∧ Below U5.heap.size U5 wx)
        case first =>
          by_cases hne : ms = []
          · have hl0 : ((m : Int) == 0) = true := by have := HLm.out; rw [hne] at this; simp at this; subst this; rfl
            rw [hl0] at HVD
            clear hne HQ2
            refine wp_region_held_drew (S := (fun w' => w'.cell? ⟨bp, 0, none⟩ = some (.slice ap p cp) ∧ w'.cell? ⟨bq, 0, none⟩ = some (.slice aq q cq) ∧ w'.cell? ⟨bm, 0, none⟩ = some (.slice am m cm) ∧ w'.cell? ⟨bs, 0, none⟩ = some (.int .i64 X) ∧ w'.cell? ⟨bs, 1, none⟩ = some (.int .i64 Y) ∧ w'.cell? ⟨bs, 2, none⟩ = some (.int .i64 1))) (by kernel_rfl) ?_ (fun hHeld => ?_)
            · (refine keep33 BP_58 BQ_60 BM_62 BS0 ?_; repeat (first | exact Below.refl _ _ | refine below_drw ?_ | refine below_to ?_ (by assumption)))
            refine wpAnyH_take (i := 0) (oi := mor0) (v := ?_) rfl (by as_aux_lemma => kernel_rfl) (by as_aux_lemma => kernel_rfl) (by as_aux_lemma => kernel_rfl) (fun _ _ _ h => h) (Or.inl ⟨by rfl, ?_⟩) (by assumption) ?_
            rotate_left
            · unfold mor0; intro w hSw; (try dsimp only at hSw); go_simp; try (with_reducible rfl)
            try simp only [mor0, Act.put, List.setIfInBounds_toArray, List.set_cons_zero, List.set_cons_succ]
            refine wpAnyH_ready (rs := [1]) (by as_aux_lemma => kernel_rfl) (by simp) ?_
            refine (AllReadyH.cons (o := mor1) rfl (fun K hK => ?_) AllReadyH.nil)
            unfold mor1
            go_simp
            (go_at_call 12; (with_reducible refine (HVD.out _).mono ?_); rintro e z0 ⟨rfl, bl0⟩)
            try go_wp2_with fail
            refine hK.out _ _ ?_ (fun hHeld2 => ?_)
            · (refine keep33 BP_58 BQ_60 BM_62 BS0 ?_; repeat (first | exact Below.refl _ _ | refine below_drw ?_ | refine below_to ?_ (by assumption)))
            clear hK K hHeld
            have hHeld := hHeld2
            clear hHeld2
            try simp only [mor1, Act.put, List.setIfInBounds_toArray, List.set_cons_zero, List.set_cons_succ]
            as_aux_lemma =>
             refine wpAnyH_take (i := 2) (oi := mor2) (v := ?_) rfl (by as_aux_lemma => kernel_rfl) (by as_aux_lemma => kernel_rfl) (by as_aux_lemma => kernel_rfl) (fun _ _ _ h => h) (Or.inl ⟨by rfl, ?_⟩) (by assumption) ?_
             rotate_left
             · unfold mor2; intro w hSw; (try dsimp only at hSw); go_simp; try (with_reducible rfl)
             try simp only [mor2, Act.put, List.setIfInBounds_toArray, List.set_cons_zero, List.set_cons_succ]
             refine wpAnyH_take (i := 3) (oi := mor3) (v := ?_) rfl (by as_aux_lemma => kernel_rfl) (by as_aux_lemma => kernel_rfl) (by as_aux_lemma => kernel_rfl) (fun _ _ _ h => h) (Or.inl ⟨by rfl, ?_⟩) (by assumption) ?_
             rotate_left
             · unfold mor3; intro w hSw; (try dsimp only at hSw); go_simp; try (with_reducible rfl)
             try simp only [mor3, Act.put, List.setIfInBounds_toArray, List.set_cons_zero, List.set_cons_succ]
             refine wpAnyH_take (i := 4) (oi := mor4) (v := undef) rfl (by as_aux_lemma => kernel_rfl) (by as_aux_lemma => kernel_rfl) (by as_aux_lemma => kernel_rfl) (fun _ _ _ h => h) (Or.inr ⟨by rfl, rfl⟩) (by assumption) ?_
             try simp only [mor4, Act.put, List.setIfInBounds_toArray, List.set_cons_zero, List.set_cons_succ]
             refine wpAnyH_take (i := 5) (oi := mor5) (v := undef) rfl (by as_aux_lemma => kernel_rfl) (by as_aux_lemma => kernel_rfl) (by as_aux_lemma => kernel_rfl) (fun _ _ _ h => h) (Or.inr ⟨by rfl, rfl⟩) (by assumption) ?_
             try simp only [mor5, Act.put, List.setIfInBounds_toArray, List.set_cons_zero, List.set_cons_succ]
             refine wpAnyH_take (i := 6) (oi := mor6) (v := undef) rfl (by as_aux_lemma => kernel_rfl) (by as_aux_lemma => kernel_rfl) (by as_aux_lemma => kernel_rfl) (fun _ _ _ h => h) (Or.inr ⟨by rfl, rfl⟩) (by assumption) ?_
             try simp only [mor6, Act.put, List.setIfInBounds_toArray, List.set_cons_zero, List.set_cons_succ]
             refine wpAnyH_take (i := 7) (oi := mor7) (v := undef) rfl (by as_aux_lemma => kernel_rfl) (by as_aux_lemma => kernel_rfl) (by as_aux_lemma => kernel_rfl) (fun _ _ _ h => h) (Or.inr ⟨by rfl, rfl⟩) (by assumption) ?_
             try simp only [mor7, Act.put, List.setIfInBounds_toArray, List.set_cons_zero, List.set_cons_succ]
             refine wpAnyH_take (i := 8) (oi := mor8) (v := undef) rfl (by as_aux_lemma => kernel_rfl) (by as_aux_lemma => kernel_rfl) (by as_aux_lemma => kernel_rfl) (fun _ _ _ h => h) (Or.inr ⟨by rfl, rfl⟩) (by assumption) ?_
             try simp only [mor8, Act.put, List.setIfInBounds_toArray, List.set_cons_zero, List.set_cons_succ]
             refine wpAnyH_take (i := 9) (oi := mor9) (v := undef) rfl (by as_aux_lemma => kernel_rfl) (by as_aux_lemma => kernel_rfl) (by as_aux_lemma => kernel_rfl) (fun _ _ _ h => h) (Or.inr ⟨by rfl, rfl⟩) (by assumption) ?_
             try simp only [mor9, Act.put, List.setIfInBounds_toArray, List.set_cons_zero, List.set_cons_succ]
             refine wpAnyH_take (i := 10) (oi := mor10) (v := undef) rfl (by as_aux_lemma => kernel_rfl) (by as_aux_lemma => kernel_rfl) (by as_aux_lemma => kernel_rfl) (fun _ _ _ h => h) (Or.inr ⟨by rfl, rfl⟩) (by assumption) ?_
             try simp only [mor10, Act.put, List.setIfInBounds_toArray, List.set_cons_zero, List.set_cons_succ]
             refine wpAnyH_take (i := 11) (oi := mor11) (v := undef) rfl (by as_aux_lemma => kernel_rfl) (by as_aux_lemma => kernel_rfl) (by as_aux_lemma => kernel_rfl) (fun _ _ _ h => h) (Or.inr ⟨by rfl, rfl⟩) (by assumption) ?_
             try simp only [mor11, Act.put, List.setIfInBounds_toArray, List.set_cons_zero, List.set_cons_succ]
             refine wpAnyH_take (i := 12) (oi := mor12) (v := undef) rfl (by as_aux_lemma => kernel_rfl) (by as_aux_lemma => kernel_rfl) (by as_aux_lemma => kernel_rfl) (fun _ _ _ h => h) (Or.inr ⟨by rfl, rfl⟩) (by assumption) ?_
             try simp only [mor12, Act.put, List.setIfInBounds_toArray, List.set_cons_zero, List.set_cons_succ]
             refine wpAnyH_take (i := 13) (oi := mor13) (v := undef) rfl (by as_aux_lemma => kernel_rfl) (by as_aux_lemma => kernel_rfl) (by as_aux_lemma => kernel_rfl) (fun _ _ _ h => h) (Or.inr ⟨by rfl, rfl⟩) (by assumption) ?_
             try simp only [mor13, Act.put, List.setIfInBounds_toArray, List.set_cons_zero, List.set_cons_succ]
             refine wpAnyH_take (i := 14) (oi := mor14) (v := undef) rfl (by as_aux_lemma => kernel_rfl) (by as_aux_lemma => kernel_rfl) (by as_aux_lemma => kernel_rfl) (fun _ _ _ h => h) (Or.inr ⟨by rfl, rfl⟩) (by assumption) ?_
             try simp only [mor14, Act.put, List.setIfInBounds_toArray, List.set_cons_zero, List.set_cons_succ]
             refine wpAnyH_take (i := 15) (oi := mor15) (v := undef) rfl (by as_aux_lemma => kernel_rfl) (by as_aux_lemma => kernel_rfl) (by as_aux_lemma => kernel_rfl) (fun _ _ _ h => h) (Or.inr ⟨by rfl, rfl⟩) (by assumption) ?_
             try simp only [mor15, Act.put, List.setIfInBounds_toArray, List.set_cons_zero, List.set_cons_succ]
             refine wpAnyH_take (i := 16) (oi := mor16) (v := ?_) rfl (by as_aux_lemma => kernel_rfl) (by as_aux_lemma => kernel_rfl) (by as_aux_lemma => kernel_rfl) (fun _ _ _ h => h) (Or.inl ⟨by rfl, ?_⟩) (by assumption) ?_
             rotate_left
             · unfold mor16; intro w hSw; (try dsimp only at hSw); go_simp; try (with_reducible rfl)
             try simp only [mor16, Act.put, List.setIfInBounds_toArray, List.set_cons_zero, List.set_cons_succ]
             refine wpAnyH_done (by kernel_rfl) ?_ _
             go_wp2_with fail
             go_meet
             refine ⟨rfl, ?_⟩
             repeat (first | exact Below.refl _ _ | refine below_drw ?_ | refine below_to ?_ (by assumption))
          · have hl0 : ((m : Int) == 0) = false := by have : 0 < ms.length := List.length_pos_iff.2 hne; rw [HLm.out] at this; exact eq_b (by omega)
            rw [hl0] at HVD
            have hq2 := HQ2.out hne
            rw [hq2] at HHM
            clear hq2 HQ2 hne
            cases hp with
            | false =>
              rw [Bool.false_and] at HHM
              refine wp_region_held_drew (S := (fun w' => w'.cell? ⟨bp, 0, none⟩ = some (.slice ap p cp) ∧ w'.cell? ⟨bq, 0, none⟩ = some (.slice aq q cq) ∧ w'.cell? ⟨bm, 0, none⟩ = some (.slice am m cm) ∧ w'.cell? ⟨bs, 0, none⟩ = some (.int .i64 X) ∧ w'.cell? ⟨bs, 1, none⟩ = some (.int .i64 Y) ∧ w'.cell? ⟨bs, 2, none⟩ = some (.int .i64 1))) (by kernel_rfl) ?_ (fun hHeld => ?_)
              · (refine keep33 BP_58 BQ_60 BM_62 BS0 ?_; repeat (first | exact Below.refl _ _ | refine below_drw ?_ | refine below_to ?_ (by assumption)))
              refine wpAnyH_take (i := 0) (oi := mor0) (v := ?_) rfl (by as_aux_lemma => kernel_rfl) (by as_aux_lemma => kernel_rfl) (by as_aux_lemma => kernel_rfl) (fun _ _ _ h => h) (Or.inl ⟨by rfl, ?_⟩) (by assumption) ?_
              rotate_left
              · unfold mor0; intro w hSw; (try dsimp only at hSw); go_simp; try (with_reducible rfl)
              try simp only [mor0, Act.put, List.setIfInBounds_toArray, List.set_cons_zero, List.set_cons_succ]
              refine wpAnyH_ready (rs := [1]) (by as_aux_lemma => kernel_rfl) (by simp) ?_
              refine (AllReadyH.cons (o := mor1) rfl (fun K hK => ?_) AllReadyH.nil)
              unfold mor1
              go_simp
              (go_at_call 12; (with_reducible refine (HVD.out _).mono ?_); rintro e z0 ⟨rfl, bl0⟩)
              try go_wp2_with fail
              refine hK.out _ _ ?_ (fun hHeld2 => ?_)
              · (refine keep33 BP_58 BQ_60 BM_62 BS0 ?_; repeat (first | exact Below.refl _ _ | refine below_drw ?_ | refine below_to ?_ (by assumption)))
              clear hK K hHeld
              have hHeld := hHeld2
              clear hHeld2
              try simp only [mor1, Act.put, List.setIfInBounds_toArray, List.set_cons_zero, List.set_cons_succ]
              as_aux_lemma =>
               refine wpAnyH_take (i := 2) (oi := mor2) (v := ?_) rfl (by as_aux_lemma => kernel_rfl) (by as_aux_lemma => kernel_rfl) (by as_aux_lemma => kernel_rfl) (fun _ _ _ h => h) (Or.inl ⟨by rfl, ?_⟩) (by assumption) ?_
               rotate_left
               · unfold mor2; intro w hSw; (try dsimp only at hSw); go_simp; try (with_reducible rfl)
               try simp only [mor2, Act.put, List.setIfInBounds_toArray, List.set_cons_zero, List.set_cons_succ]
               refine wpAnyH_take (i := 3) (oi := mor3) (v := ?_) rfl (by as_aux_lemma => kernel_rfl) (by as_aux_lemma => kernel_rfl) (by as_aux_lemma => kernel_rfl) (fun _ _ _ h => h) (Or.inl ⟨by rfl, ?_⟩) (by assumption) ?_
               rotate_left
               · unfold mor3; intro w hSw; (try dsimp only at hSw); go_simp; try (with_reducible rfl)
               try simp only [mor3, Act.put, List.setIfInBounds_toArray, List.set_cons_zero, List.set_cons_succ]
               refine wpAnyH_take (i := 4) (oi := mor4) (v := ?_) rfl (by as_aux_lemma => kernel_rfl) (by as_aux_lemma => kernel_rfl) (by as_aux_lemma => kernel_rfl) (fun _ _ _ h => h) (Or.inl ⟨by rfl, ?_⟩) (by assumption) ?_
               rotate_left
               · unfold mor4; intro w hSw; (try dsimp only at hSw); go_simp; try (with_reducible rfl)
               try simp only [mor4, Act.put, List.setIfInBounds_toArray, List.set_cons_zero, List.set_cons_succ]
               refine wpAnyH_take (i := 5) (oi := mor5) (v := ?_) rfl (by as_aux_lemma => kernel_rfl) (by as_aux_lemma => kernel_rfl) (by as_aux_lemma => kernel_rfl) (fun _ _ _ h => h) (Or.inl ⟨by rfl, ?_⟩) (by assumption) ?_
               rotate_left
               · unfold mor5; intro w hSw; (try dsimp only at hSw); go_simp; try (with_reducible rfl)
               try simp only [mor5, Act.put, List.setIfInBounds_toArray, List.set_cons_zero, List.set_cons_succ]
               refine wpAnyH_take (i := 7) (oi := mor7) (v := ?_) rfl (by as_aux_lemma => kernel_rfl) (by as_aux_lemma => kernel_rfl) (by as_aux_lemma => kernel_rfl) (fun _ _ _ h => h) (Or.inl ⟨by rfl, ?_⟩) (by assumption) ?_
               rotate_left
               · unfold mor7; intro w hSw; (try dsimp only at hSw); go_simp; try (with_reducible rfl)
               try simp only [mor7, Act.put, List.setIfInBounds_toArray, List.set_cons_zero, List.set_cons_succ]
               refine wpAnyH_take (i := 8) (oi := mor8) (v := ?_) rfl (by as_aux_lemma => kernel_rfl) (by as_aux_lemma => kernel_rfl) (by as_aux_lemma => kernel_rfl) (fun _ _ _ h => h) (Or.inl ⟨by rfl, ?_⟩) (by assumption) ?_
               rotate_left
               · unfold mor8; intro w hSw; (try dsimp only at hSw); go_simp; try (with_reducible rfl)
               try simp only [mor8, Act.put, List.setIfInBounds_toArray, List.set_cons_zero, List.set_cons_succ]
               refine wpAnyH_ready (rs := [6]) (by as_aux_lemma => kernel_rfl) (by simp) ?_
               refine (AllReadyH.cons (o := mor6) rfl (fun K hK => ?_) AllReadyH.nil)
               unfold mor6
               go_simp
               (go_at_call 13; (with_reducible refine (HHM.out _ ?_).mono ?_); (focus ((refine Hms_61.out.below ?_); repeat (first | exact Below.refl _ _ | refine below_drw ?_ | refine below_to ?_ (by assumption)))); rintro e z1 ⟨rfl, bl1⟩)
               try go_wp2_with fail
               refine hK.out _ _ ?_ (fun hHeld2 => ?_)
               · (refine keep33 BP_58 BQ_60 BM_62 BS0 ?_; repeat (first | exact Below.refl _ _ | refine below_drw ?_ | refine below_to ?_ (by assumption)))
               clear hK K hHeld
               have hHeld := hHeld2
               clear hHeld2
               try simp only [mor6, Act.put, List.setIfInBounds_toArray, List.set_cons_zero, List.set_cons_succ]
               as_aux_lemma =>
                refine wpAnyH_ready (rs := [9]) (by as_aux_lemma => kernel_rfl) (by simp) ?_
                refine (AllReadyH.cons (o := mor9) rfl (fun K hK => ?_) AllReadyH.nil)
                unfold mor9
                go_simp
                (go_at_call 13; (with_reducible refine (HHP.out _ ?_).mono ?_); (focus ((refine Hps_57.out.below ?_); repeat (first | exact Below.refl _ _ | refine below_drw ?_ | refine below_to ?_ (by assumption)))); rintro e z2 ⟨rfl, bl2⟩)
                try go_wp2_with fail
                refine hK.out _ _ ?_ (fun hHeld2 => ?_)
                · (refine keep33 BP_58 BQ_60 BM_62 BS0 ?_; repeat (first | exact Below.refl _ _ | refine below_drw ?_ | refine below_to ?_ (by assumption)))
                clear hK K hHeld
                have hHeld := hHeld2
                clear hHeld2
                try simp only [mor9, Act.put, List.setIfInBounds_toArray, List.set_cons_zero, List.set_cons_succ]
                as_aux_lemma =>
                 refine wpAnyH_take (i := 10) (oi := mor10) (v := ?_) rfl (by as_aux_lemma => kernel_rfl) (by as_aux_lemma => kernel_rfl) (by as_aux_lemma => kernel_rfl) (fun _ _ _ h => h) (Or.inl ⟨by rfl, ?_⟩) (by assumption) ?_
                 rotate_left
                 · unfold mor10; intro w hSw; (try dsimp only at hSw); go_simp; try (with_reducible rfl)
                 try simp only [mor10, Act.put, List.setIfInBounds_toArray, List.set_cons_zero, List.set_cons_succ]
                 refine wpAnyH_take (i := 11) (oi := mor11) (v := undef) rfl (by as_aux_lemma => kernel_rfl) (by as_aux_lemma => kernel_rfl) (by as_aux_lemma => kernel_rfl) (fun _ _ _ h => h) (Or.inr ⟨by rfl, rfl⟩) (by assumption) ?_
                 try simp only [mor11, Act.put, List.setIfInBounds_toArray, List.set_cons_zero, List.set_cons_succ]
                 refine wpAnyH_take (i := 12) (oi := mor12) (v := undef) rfl (by as_aux_lemma => kernel_rfl) (by as_aux_lemma => kernel_rfl) (by as_aux_lemma => kernel_rfl) (fun _ _ _ h => h) (Or.inr ⟨by rfl, rfl⟩) (by assumption) ?_
                 try simp only [mor12, Act.put, List.setIfInBounds_toArray, List.set_cons_zero, List.set_cons_succ]
                 refine wpAnyH_take (i := 13) (oi := mor13) (v := undef) rfl (by as_aux_lemma => kernel_rfl) (by as_aux_lemma => kernel_rfl) (by as_aux_lemma => kernel_rfl) (fun _ _ _ h => h) (Or.inr ⟨by rfl, rfl⟩) (by assumption) ?_
                 try simp only [mor13, Act.put, List.setIfInBounds_toArray, List.set_cons_zero, List.set_cons_succ]
                 refine wpAnyH_take (i := 14) (oi := mor14) (v := ?_) rfl (by as_aux_lemma => kernel_rfl) (by as_aux_lemma => kernel_rfl) (by as_aux_lemma => kernel_rfl) (fun _ _ _ h => h) (Or.inl ⟨by rfl, ?_⟩) (by assumption) ?_
                 rotate_left
                 · unfold mor14; intro w hSw; (try dsimp only at hSw); go_simp; try (with_reducible rfl)
                 try simp only [mor14, Act.put, List.setIfInBounds_toArray, List.set_cons_zero, List.set_cons_succ]
                 refine wpAnyH_take (i := 15) (oi := mor15) (v := ?_) rfl (by as_aux_lemma => kernel_rfl) (by as_aux_lemma => kernel_rfl) (by as_aux_lemma => kernel_rfl) (fun _ _ _ h => h) (Or.inl ⟨by rfl, ?_⟩) (by assumption) ?_
                 rotate_left
                 · unfold mor15; intro w hSw; (try dsimp only at hSw); go_simp; try (with_reducible rfl)
                 try simp only [mor15, Act.put, List.setIfInBounds_toArray, List.set_cons_zero, List.set_cons_succ]
                 refine wpAnyH_take (i := 16) (oi := mor16) (v := ?_) rfl (by as_aux_lemma => kernel_rfl) (by as_aux_lemma => kernel_rfl) (by as_aux_lemma => kernel_rfl) (fun _ _ _ h => h) (Or.inl ⟨by rfl, ?_⟩) (by assumption) ?_
                 rotate_left
                 · unfold mor16; intro w hSw; (try dsimp only at hSw); go_simp; try (with_reducible rfl)
                 try simp only [mor16, Act.put, List.setIfInBounds_toArray, List.set_cons_zero, List.set_cons_succ]
                 refine wpAnyH_done (by kernel_rfl) ?_ _
                 go_wp2_with fail
                 go_meet
                 refine ⟨rfl, ?_⟩
                 repeat (first | exact Below.refl _ _ | refine below_drw ?_ | refine below_to ?_ (by assumption))
            | true =>
              rw [Bool.true_and] at HHM
              cases hq with
              | false =>
                refine wp_region_held_drew (S := (fun w' => w'.cell? ⟨bp, 0, none⟩ = some (.slice ap p cp) ∧ w'.cell? ⟨bq, 0, none⟩ = some (.slice aq q cq) ∧ w'.cell? ⟨bm, 0, none⟩ = some (.slice am m cm) ∧ w'.cell? ⟨bs, 0, none⟩ = some (.int .i64 X) ∧ w'.cell? ⟨bs, 1, none⟩ = some (.int .i64 Y) ∧ w'.cell? ⟨bs, 2, none⟩ = some (.int .i64 1))) (by kernel_rfl) ?_ (fun hHeld => ?_)
                · (refine keep33 BP_58 BQ_60 BM_62 BS0 ?_; repeat (first | exact Below.refl _ _ | refine below_drw ?_ | refine below_to ?_ (by assumption)))
                refine wpAnyH_take (i := 0) (oi := mor0) (v := ?_) rfl (by as_aux_lemma => kernel_rfl) (by as_aux_lemma => kernel_rfl) (by as_aux_lemma => kernel_rfl) (fun _ _ _ h => h) (Or.inl ⟨by rfl, ?_⟩) (by assumption) ?_
                rotate_left
                · unfold mor0; intro w hSw; (try dsimp only at hSw); go_simp; try (with_reducible rfl)
                try simp only [mor0, Act.put, List.setIfInBounds_toArray, List.set_cons_zero, List.set_cons_succ]
                refine wpAnyH_ready (rs := [1]) (by as_aux_lemma => kernel_rfl) (by simp) ?_
                refine (AllReadyH.cons (o := mor1) rfl (fun K hK => ?_) AllReadyH.nil)
                unfold mor1
                go_simp
                (go_at_call 12; (with_reducible refine (HVD.out _).mono ?_); rintro e z0 ⟨rfl, bl0⟩)
                try go_wp2_with fail
                refine hK.out _ _ ?_ (fun hHeld2 => ?_)
                · (refine keep33 BP_58 BQ_60 BM_62 BS0 ?_; repeat (first | exact Below.refl _ _ | refine below_drw ?_ | refine below_to ?_ (by assumption)))
                clear hK K hHeld
                have hHeld := hHeld2
                clear hHeld2
                try simp only [mor1, Act.put, List.setIfInBounds_toArray, List.set_cons_zero, List.set_cons_succ]
                as_aux_lemma =>
                 refine wpAnyH_take (i := 2) (oi := mor2) (v := ?_) rfl (by as_aux_lemma => kernel_rfl) (by as_aux_lemma => kernel_rfl) (by as_aux_lemma => kernel_rfl) (fun _ _ _ h => h) (Or.inl ⟨by rfl, ?_⟩) (by assumption) ?_
                 rotate_left
                 · unfold mor2; intro w hSw; (try dsimp only at hSw); go_simp; try (with_reducible rfl)
                 try simp only [mor2, Act.put, List.setIfInBounds_toArray, List.set_cons_zero, List.set_cons_succ]
                 refine wpAnyH_take (i := 3) (oi := mor3) (v := ?_) rfl (by as_aux_lemma => kernel_rfl) (by as_aux_lemma => kernel_rfl) (by as_aux_lemma => kernel_rfl) (fun _ _ _ h => h) (Or.inl ⟨by rfl, ?_⟩) (by assumption) ?_
                 rotate_left
                 · unfold mor3; intro w hSw; (try dsimp only at hSw); go_simp; try (with_reducible rfl)
                 try simp only [mor3, Act.put, List.setIfInBounds_toArray, List.set_cons_zero, List.set_cons_succ]
                 refine wpAnyH_take (i := 4) (oi := mor4) (v := ?_) rfl (by as_aux_lemma => kernel_rfl) (by as_aux_lemma => kernel_rfl) (by as_aux_lemma => kernel_rfl) (fun _ _ _ h => h) (Or.inl ⟨by rfl, ?_⟩) (by assumption) ?_
                 rotate_left
                 · unfold mor4; intro w hSw; (try dsimp only at hSw); go_simp; try (with_reducible rfl)
                 try simp only [mor4, Act.put, List.setIfInBounds_toArray, List.set_cons_zero, List.set_cons_succ]
                 refine wpAnyH_take (i := 5) (oi := mor5) (v := ?_) rfl (by as_aux_lemma => kernel_rfl) (by as_aux_lemma => kernel_rfl) (by as_aux_lemma => kernel_rfl) (fun _ _ _ h => h) (Or.inl ⟨by rfl, ?_⟩) (by assumption) ?_
                 rotate_left
                 · unfold mor5; intro w hSw; (try dsimp only at hSw); go_simp; try (with_reducible rfl)
                 try simp only [mor5, Act.put, List.setIfInBounds_toArray, List.set_cons_zero, List.set_cons_succ]
                 refine wpAnyH_take (i := 7) (oi := mor7) (v := ?_) rfl (by as_aux_lemma => kernel_rfl) (by as_aux_lemma => kernel_rfl) (by as_aux_lemma => kernel_rfl) (fun _ _ _ h => h) (Or.inl ⟨by rfl, ?_⟩) (by assumption) ?_
                 rotate_left
                 · unfold mor7; intro w hSw; (try dsimp only at hSw); go_simp; try (with_reducible rfl)
                 try simp only [mor7, Act.put, List.setIfInBounds_toArray, List.set_cons_zero, List.set_cons_succ]
                 refine wpAnyH_take (i := 8) (oi := mor8) (v := ?_) rfl (by as_aux_lemma => kernel_rfl) (by as_aux_lemma => kernel_rfl) (by as_aux_lemma => kernel_rfl) (fun _ _ _ h => h) (Or.inl ⟨by rfl, ?_⟩) (by assumption) ?_
                 rotate_left
                 · unfold mor8; intro w hSw; (try dsimp only at hSw); go_simp; try (with_reducible rfl)
                 try simp only [mor8, Act.put, List.setIfInBounds_toArray, List.set_cons_zero, List.set_cons_succ]
                 refine wpAnyH_ready (rs := [6]) (by as_aux_lemma => kernel_rfl) (by simp) ?_
                 refine (AllReadyH.cons (o := mor6) rfl (fun K hK => ?_) AllReadyH.nil)
                 unfold mor6
                 go_simp
                 (go_at_call 13; (with_reducible refine (HHM.out _ ?_).mono ?_); (focus ((refine Hms_61.out.below ?_); repeat (first | exact Below.refl _ _ | refine below_drw ?_ | refine below_to ?_ (by assumption)))); rintro e z1 ⟨rfl, bl1⟩)
                 try go_wp2_with fail
                 refine hK.out _ _ ?_ (fun hHeld2 => ?_)
                 · (refine keep33 BP_58 BQ_60 BM_62 BS0 ?_; repeat (first | exact Below.refl _ _ | refine below_drw ?_ | refine below_to ?_ (by assumption)))
                 clear hK K hHeld
                 have hHeld := hHeld2
                 clear hHeld2
                 try simp only [mor6, Act.put, List.setIfInBounds_toArray, List.set_cons_zero, List.set_cons_succ]
                 as_aux_lemma =>
                  refine wpAnyH_ready (rs := [9]) (by as_aux_lemma => kernel_rfl) (by simp) ?_
                  refine (AllReadyH.cons (o := mor9) rfl (fun K hK => ?_) AllReadyH.nil)
                  unfold mor9
                  go_simp
                  (go_at_call 13; (with_reducible refine (HHP.out _ ?_).mono ?_); (focus ((refine Hps_57.out.below ?_); repeat (first | exact Below.refl _ _ | refine below_drw ?_ | refine below_to ?_ (by assumption)))); rintro e z2 ⟨rfl, bl2⟩)
                  try go_wp2_with fail
                  refine hK.out _ _ ?_ (fun hHeld2 => ?_)
                  · (refine keep33 BP_58 BQ_60 BM_62 BS0 ?_; repeat (first | exact Below.refl _ _ | refine below_drw ?_ | refine below_to ?_ (by assumption)))
                  clear hK K hHeld
                  have hHeld := hHeld2
                  clear hHeld2
                  try simp only [mor9, Act.put, List.setIfInBounds_toArray, List.set_cons_zero, List.set_cons_succ]
                  as_aux_lemma =>
                   refine wpAnyH_take (i := 10) (oi := mor10) (v := ?_) rfl (by as_aux_lemma => kernel_rfl) (by as_aux_lemma => kernel_rfl) (by as_aux_lemma => kernel_rfl) (fun _ _ _ h => h) (Or.inl ⟨by rfl, ?_⟩) (by assumption) ?_
                   rotate_left
                   · unfold mor10; intro w hSw; (try dsimp only at hSw); go_simp; try (with_reducible rfl)
                   try simp only [mor10, Act.put, List.setIfInBounds_toArray, List.set_cons_zero, List.set_cons_succ]
                   refine wpAnyH_take (i := 11) (oi := mor11) (v := ?_) rfl (by as_aux_lemma => kernel_rfl) (by as_aux_lemma => kernel_rfl) (by as_aux_lemma => kernel_rfl) (fun _ _ _ h => h) (Or.inl ⟨by rfl, ?_⟩) (by assumption) ?_
                   rotate_left
                   · unfold mor11; intro w hSw; (try dsimp only at hSw); go_simp; try (with_reducible rfl)
                   try simp only [mor11, Act.put, List.setIfInBounds_toArray, List.set_cons_zero, List.set_cons_succ]
                   refine wpAnyH_take (i := 12) (oi := mor12) (v := ?_) rfl (by as_aux_lemma => kernel_rfl) (by as_aux_lemma => kernel_rfl) (by as_aux_lemma => kernel_rfl) (fun _ _ _ h => h) (Or.inl ⟨by rfl, ?_⟩) (by assumption) ?_
                   rotate_left
                   · unfold mor12; intro w hSw; (try dsimp only at hSw); go_simp; try (with_reducible rfl)
                   try simp only [mor12, Act.put, List.setIfInBounds_toArray, List.set_cons_zero, List.set_cons_succ]
                   refine wpAnyH_ready (rs := [13]) (by as_aux_lemma => kernel_rfl) (by simp) ?_
                   refine (AllReadyH.cons (o := mor13) rfl (fun K hK => ?_) AllReadyH.nil)
                   unfold mor13
                   go_simp
                   (go_at_call 13; (with_reducible refine (HHQ.out _ ?_).mono ?_); (focus ((refine Hqs_59.out.below ?_); repeat (first | exact Below.refl _ _ | refine below_drw ?_ | refine below_to ?_ (by assumption)))); rintro e z3 ⟨rfl, bl3⟩)
                   try go_wp2_with fail
                   refine hK.out _ _ ?_ (fun hHeld2 => ?_)
                   · (refine keep33 BP_58 BQ_60 BM_62 BS0 ?_; repeat (first | exact Below.refl _ _ | refine below_drw ?_ | refine below_to ?_ (by assumption)))
                   clear hK K hHeld
                   have hHeld := hHeld2
                   clear hHeld2
                   try simp only [mor13, Act.put, List.setIfInBounds_toArray, List.set_cons_zero, List.set_cons_succ]
                   as_aux_lemma =>
                    refine wpAnyH_take (i := 14) (oi := mor14) (v := ?_) rfl (by as_aux_lemma => kernel_rfl) (by as_aux_lemma => kernel_rfl) (by as_aux_lemma => kernel_rfl) (fun _ _ _ h => h) (Or.inl ⟨by rfl, ?_⟩) (by assumption) ?_
                    rotate_left
                    · unfold mor14; intro w hSw; (try dsimp only at hSw); go_simp; try (with_reducible rfl)
                    try simp only [mor14, Act.put, List.setIfInBounds_toArray, List.set_cons_zero, List.set_cons_succ]
                    refine wpAnyH_take (i := 15) (oi := mor15) (v := ?_) rfl (by as_aux_lemma => kernel_rfl) (by as_aux_lemma => kernel_rfl) (by as_aux_lemma => kernel_rfl) (fun _ _ _ h => h) (Or.inl ⟨by rfl, ?_⟩) (by assumption) ?_
                    rotate_left
                    · unfold mor15; intro w hSw; (try dsimp only at hSw); go_simp; try (with_reducible rfl)
                    try simp only [mor15, Act.put, List.setIfInBounds_toArray, List.set_cons_zero, List.set_cons_succ]
                    refine wpAnyH_take (i := 16) (oi := mor16) (v := ?_) rfl (by as_aux_lemma => kernel_rfl) (by as_aux_lemma => kernel_rfl) (by as_aux_lemma => kernel_rfl) (fun _ _ _ h => h) (Or.inl ⟨by rfl, ?_⟩) (by assumption) ?_
                    rotate_left
                    · unfold mor16; intro w hSw; (try dsimp only at hSw); go_simp; try (with_reducible rfl)
                    try simp only [mor16, Act.put, List.setIfInBounds_toArray, List.set_cons_zero, List.set_cons_succ]
                    refine wpAnyH_done (by kernel_rfl) ?_ _
                    go_wp2_with fail
                    go_meet
                    refine ⟨rfl, ?_⟩
                    repeat (first | exact Below.refl _ _ | refine below_drw ?_ | refine below_to ?_ (by assumption))
              | true =>
                refine wp_region_held_drew (S := (fun w' => w'.cell? ⟨bp, 0, none⟩ = some (.slice ap p cp) ∧ w'.cell? ⟨bq, 0, none⟩ = some (.slice aq q cq) ∧ w'.cell? ⟨bm, 0, none⟩ = some (.slice am m cm) ∧ w'.cell? ⟨bs, 0, none⟩ = some (.int .i64 X) ∧ w'.cell? ⟨bs, 1, none⟩ = some (.int .i64 Y) ∧ w'.cell? ⟨bs, 2, none⟩ = some (.int .i64 1))) (by kernel_rfl) ?_ (fun hHeld => ?_)
                · (refine keep33 BP_58 BQ_60 BM_62 BS0 ?_; repeat (first | exact Below.refl _ _ | refine below_drw ?_ | refine below_to ?_ (by assumption)))
                refine wpAnyH_take (i := 0) (oi := mor0) (v := ?_) rfl (by as_aux_lemma => kernel_rfl) (by as_aux_lemma => kernel_rfl) (by as_aux_lemma => kernel_rfl) (fun _ _ _ h => h) (Or.inl ⟨by rfl, ?_⟩) (by assumption) ?_
                rotate_left
                · unfold mor0; intro w hSw; (try dsimp only at hSw); go_simp; try (with_reducible rfl)
                try simp only [mor0, Act.put, List.setIfInBounds_toArray, List.set_cons_zero, List.set_cons_succ]
                refine wpAnyH_ready (rs := [1]) (by as_aux_lemma => kernel_rfl) (by simp) ?_
                refine (AllReadyH.cons (o := mor1) rfl (fun K hK => ?_) AllReadyH.nil)
                unfold mor1
                go_simp
                (go_at_call 12; (with_reducible refine (HVD.out _).mono ?_); rintro e z0 ⟨rfl, bl0⟩)
                try go_wp2_with fail
                refine hK.out _ _ ?_ (fun hHeld2 => ?_)
                · (refine keep33 BP_58 BQ_60 BM_62 BS0 ?_; repeat (first | exact Below.refl _ _ | refine below_drw ?_ | refine below_to ?_ (by assumption)))
                clear hK K hHeld
                have hHeld := hHeld2
                clear hHeld2
                try simp only [mor1, Act.put, List.setIfInBounds_toArray, List.set_cons_zero, List.set_cons_succ]
                as_aux_lemma =>
                 refine wpAnyH_take (i := 2) (oi := mor2) (v := ?_) rfl (by as_aux_lemma => kernel_rfl) (by as_aux_lemma => kernel_rfl) (by as_aux_lemma => kernel_rfl) (fun _ _ _ h => h) (Or.inl ⟨by rfl, ?_⟩) (by assumption) ?_
                 rotate_left
                 · unfold mor2; intro w hSw; (try dsimp only at hSw); go_simp; try (with_reducible rfl)
                 try simp only [mor2, Act.put, List.setIfInBounds_toArray, List.set_cons_zero, List.set_cons_succ]
                 refine wpAnyH_take (i := 3) (oi := mor3) (v := ?_) rfl (by as_aux_lemma => kernel_rfl) (by as_aux_lemma => kernel_rfl) (by as_aux_lemma => kernel_rfl) (fun _ _ _ h => h) (Or.inl ⟨by rfl, ?_⟩) (by assumption) ?_
                 rotate_left
                 · unfold mor3; intro w hSw; (try dsimp only at hSw); go_simp; try (with_reducible rfl)
                 try simp only [mor3, Act.put, List.setIfInBounds_toArray, List.set_cons_zero, List.set_cons_succ]
                 refine wpAnyH_take (i := 4) (oi := mor4) (v := ?_) rfl (by as_aux_lemma => kernel_rfl) (by as_aux_lemma => kernel_rfl) (by as_aux_lemma => kernel_rfl) (fun _ _ _ h => h) (Or.inl ⟨by rfl, ?_⟩) (by assumption) ?_
                 rotate_left
                 · unfold mor4; intro w hSw; (try dsimp only at hSw); go_simp; try (with_reducible rfl)
                 try simp only [mor4, Act.put, List.setIfInBounds_toArray, List.set_cons_zero, List.set_cons_succ]
                 refine wpAnyH_take (i := 5) (oi := mor5) (v := ?_) rfl (by as_aux_lemma => kernel_rfl) (by as_aux_lemma => kernel_rfl) (by as_aux_lemma => kernel_rfl) (fun _ _ _ h => h) (Or.inl ⟨by rfl, ?_⟩) (by assumption) ?_
                 rotate_left
                 · unfold mor5; intro w hSw; (try dsimp only at hSw); go_simp; try (with_reducible rfl)
                 try simp only [mor5, Act.put, List.setIfInBounds_toArray, List.set_cons_zero, List.set_cons_succ]
                 refine wpAnyH_take (i := 7) (oi := mor7) (v := ?_) rfl (by as_aux_lemma => kernel_rfl) (by as_aux_lemma => kernel_rfl) (by as_aux_lemma => kernel_rfl) (fun _ _ _ h => h) (Or.inl ⟨by rfl, ?_⟩) (by assumption) ?_
                 rotate_left
                 · unfold mor7; intro w hSw; (try dsimp only at hSw); go_simp; try (with_reducible rfl)
                 try simp only [mor7, Act.put, List.setIfInBounds_toArray, List.set_cons_zero, List.set_cons_succ]
                 refine wpAnyH_take (i := 8) (oi := mor8) (v := ?_) rfl (by as_aux_lemma => kernel_rfl) (by as_aux_lemma => kernel_rfl) (by as_aux_lemma => kernel_rfl) (fun _ _ _ h => h) (Or.inl ⟨by rfl, ?_⟩) (by assumption) ?_
                 rotate_left
                 · unfold mor8; intro w hSw; (try dsimp only at hSw); go_simp; try (with_reducible rfl)
                 try simp only [mor8, Act.put, List.setIfInBounds_toArray, List.set_cons_zero, List.set_cons_succ]
                 refine wpAnyH_ready (rs := [6]) (by as_aux_lemma => kernel_rfl) (by simp) ?_
                 refine (AllReadyH.cons (o := mor6) rfl (fun K hK => ?_) AllReadyH.nil)
                 unfold mor6
                 go_simp
                 (go_at_call 13; (with_reducible refine (HHM.out _ ?_).mono ?_); (focus ((refine Hms_61.out.below ?_); repeat (first | exact Below.refl _ _ | refine below_drw ?_ | refine below_to ?_ (by assumption)))); rintro e z1 ⟨rfl, bl1⟩)
                 try go_wp2_with fail
                 refine hK.out _ _ ?_ (fun hHeld2 => ?_)
                 · (refine keep33 BP_58 BQ_60 BM_62 BS0 ?_; repeat (first | exact Below.refl _ _ | refine below_drw ?_ | refine below_to ?_ (by assumption)))
                 clear hK K hHeld
                 have hHeld := hHeld2
                 clear hHeld2
                 try simp only [mor6, Act.put, List.setIfInBounds_toArray, List.set_cons_zero, List.set_cons_succ]
                 as_aux_lemma =>
                  refine wpAnyH_ready (rs := [9]) (by as_aux_lemma => kernel_rfl) (by simp) ?_
                  refine (AllReadyH.cons (o := mor9) rfl (fun K hK => ?_) AllReadyH.nil)
                  unfold mor9
                  go_simp
                  (go_at_call 13; (with_reducible refine (HHP.out _ ?_).mono ?_); (focus ((refine Hps_57.out.below ?_); repeat (first | exact Below.refl _ _ | refine below_drw ?_ | refine below_to ?_ (by assumption)))); rintro e z2 ⟨rfl, bl2⟩)
                  try go_wp2_with fail
                  refine hK.out _ _ ?_ (fun hHeld2 => ?_)
                  · (refine keep33 BP_58 BQ_60 BM_62 BS0 ?_; repeat (first | exact Below.refl _ _ | refine below_drw ?_ | refine below_to ?_ (by assumption)))
                  clear hK K hHeld
                  have hHeld := hHeld2
                  clear hHeld2
                  try simp only [mor9, Act.put, List.setIfInBounds_toArray, List.set_cons_zero, List.set_cons_succ]
                  as_aux_lemma =>
                   refine wpAnyH_take (i := 10) (oi := mor10) (v := ?_) rfl (by as_aux_lemma => kernel_rfl) (by as_aux_lemma => kernel_rfl) (by as_aux_lemma => kernel_rfl) (fun _ _ _ h => h) (Or.inl ⟨by rfl, ?_⟩) (by assumption) ?_
                   rotate_left
                   · unfold mor10; intro w hSw; (try dsimp only at hSw); go_simp; try (with_reducible rfl)
                   try simp only [mor10, Act.put, List.setIfInBounds_toArray, List.set_cons_zero, List.set_cons_succ]
                   refine wpAnyH_take (i := 11) (oi := mor11) (v := ?_) rfl (by as_aux_lemma => kernel_rfl) (by as_aux_lemma => kernel_rfl) (by as_aux_lemma => kernel_rfl) (fun _ _ _ h => h) (Or.inl ⟨by rfl, ?_⟩) (by assumption) ?_
                   rotate_left
                   · unfold mor11; intro w hSw; (try dsimp only at hSw); go_simp; try (with_reducible rfl)
                   try simp only [mor11, Act.put, List.setIfInBounds_toArray, List.set_cons_zero, List.set_cons_succ]
                   refine wpAnyH_take (i := 12) (oi := mor12) (v := ?_) rfl (by as_aux_lemma => kernel_rfl) (by as_aux_lemma => kernel_rfl) (by as_aux_lemma => kernel_rfl) (fun _ _ _ h => h) (Or.inl ⟨by rfl, ?_⟩) (by assumption) ?_
                   rotate_left
                   · unfold mor12; intro w hSw; (try dsimp only at hSw); go_simp; try (with_reducible rfl)
                   try simp only [mor12, Act.put, List.setIfInBounds_toArray, List.set_cons_zero, List.set_cons_succ]
                   refine wpAnyH_ready (rs := [13]) (by as_aux_lemma => kernel_rfl) (by simp) ?_
                   refine (AllReadyH.cons (o := mor13) rfl (fun K hK => ?_) AllReadyH.nil)
                   unfold mor13
                   go_simp
                   (go_at_call 13; (with_reducible refine (HHQ.out _ ?_).mono ?_); (focus ((refine Hqs_59.out.below ?_); repeat (first | exact Below.refl _ _ | refine below_drw ?_ | refine below_to ?_ (by assumption)))); rintro e z3 ⟨rfl, bl3⟩)
                   try go_wp2_with fail
                   refine hK.out _ _ ?_ (fun hHeld2 => ?_)
                   · (refine keep33 BP_58 BQ_60 BM_62 BS0 ?_; repeat (first | exact Below.refl _ _ | refine below_drw ?_ | refine below_to ?_ (by assumption)))
                   clear hK K hHeld
                   have hHeld := hHeld2
                   clear hHeld2
                   try simp only [mor13, Act.put, List.setIfInBounds_toArray, List.set_cons_zero, List.set_cons_succ]
                   as_aux_lemma =>
                    refine wpAnyH_take (i := 14) (oi := mor14) (v := ?_) rfl (by as_aux_lemma => kernel_rfl) (by as_aux_lemma => kernel_rfl) (by as_aux_lemma => kernel_rfl) (fun _ _ _ h => h) (Or.inl ⟨by rfl, ?_⟩) (by assumption) ?_
                    rotate_left
                    · unfold mor14; intro w hSw; (try dsimp only at hSw); go_simp; try (with_reducible rfl)
                    try simp only [mor14, Act.put, List.setIfInBounds_toArray, List.set_cons_zero, List.set_cons_succ]
                    refine wpAnyH_take (i := 15) (oi := mor15) (v := ?_) rfl (by as_aux_lemma => kernel_rfl) (by as_aux_lemma => kernel_rfl) (by as_aux_lemma => kernel_rfl) (fun _ _ _ h => h) (Or.inl ⟨by rfl, ?_⟩) (by assumption) ?_
                    rotate_left
                    · unfold mor15; intro w hSw; (try dsimp only at hSw); go_simp; try (with_reducible rfl)
                    try simp only [mor15, Act.put, List.setIfInBounds_toArray, List.set_cons_zero, List.set_cons_succ]
                    refine wpAnyH_take (i := 16) (oi := mor16) (v := ?_) rfl (by as_aux_lemma => kernel_rfl) (by as_aux_lemma => kernel_rfl) (by as_aux_lemma => kernel_rfl) (fun _ _ _ h => h) (Or.inl ⟨by rfl, ?_⟩) (by assumption) ?_
                    rotate_left
                    · unfold mor16; intro w hSw; (try dsimp only at hSw); go_simp; try (with_reducible rfl)
                    try simp only [mor16, Act.put, List.setIfInBounds_toArray, List.set_cons_zero, List.set_cons_succ]
                    refine wpAnyH_done (by kernel_rfl) ?_ _
                    go_wp2_with fail
                    go_meet
                    refine ⟨rfl, ?_⟩
                    repeat (first | exact Below.refl _ _ | refine below_drw ?_ | refine below_to ?_ (by assumption))
        case rest =>
          obtain ⟨rfl, hb6⟩ := hcut
          rename World => wd
          have Hps_65 := Lib.hid (Hps_57.out.below hb6)
          have BP_66 := BP_58.to hb6
          have Hqs_67 := Lib.hid (Hqs_59.out.below hb6)
          have BQ_68 := BQ_60.to hb6
          have Hms_69 := Lib.hid (Hms_61.out.below hb6)
          have BM_70 := BM_62.to hb6
          have b_71 := below_to b_63 hb6
          have b4_72 := below_to b4_64 hb6
          have BS_73 := BS0.to hb6
          clear Hps_57 BP_58 Hqs_59 BQ_60 Hms_61 BM_62 b_63 b4_64 BS0
          go_wp2
          go_roundw
          case rel => exact ⟨k + 1, by omega, by go_num, b_71, b4_72⟩
          case measure => simp [intOf]; omega
      · have h12 : k = 12 := by omega
        subst h12
        clear hk12
        obtain ⟨h, hx⟩ : ∃ h, ps[0]? = some h := ⟨_, List.getElem?_eq_getElem (List.length_pos_iff.2 HNps.out)⟩
        have hok := HRps.out
        have hmem := List.mem_of_getElem? hx
        obtain ⟨d1, d2, d3, d4, d5⟩ := HCU.out h hmem
        have hob := rok_all hok h hmem
        have hpp : 0 < p := by have := List.length_pos_iff.2 HNps.out; have := HLps.out; omega
        obtain ⟨g, o, rfl, hcx⟩ := Hps_43.out 0 _ hx
        rw [show o + 0 * 3 = o by omega] at hcx
        obtain ⟨t1, t2, t3⟩ := id hcx
        clear hx hmem hok HCU HHA
        have HRC := Lib.hid d2
        have HWD := Lib.hid d3
        have HWE := Lib.hid d4
        have HWH := Lib.hid d5
        have hcl : (cutA qs h).length ≤ 40 := rok_len d2
        have HCT := Lib.hid (fun V (k : HsAt V aq qs) => impl_cut aq q cq qs h.a h.b h.c V HLqs.out (by omega) H64qs.out (ok_in64 hob) k)
        rw [show (⟨h.a, h.b, h.c⟩ : H3) = h from rfl, d1] at HCT
        clear d1 d2 d3 d4 d5 hob
        generalize cutA qs h = cs at *
        have C64 := Lib.hid (fun h hh => ok_in64 (rok_all HRC.out h hh))
        unfold AnsR at HCT
        obtain ⟨c, hc⟩ : ∃ m, cs.length = m := ⟨_, rfl⟩
        rw [hc] at hcl HCT
        have HLc := Lib.hid hc
        clear hc
        obtain ⟨x, y, z⟩ := h
        have qP := BP_44.cell0 (i := 0) rfl
        have bN := below_one wr (.cells #[.int .i64 x, .int .i64 y, .int .i64 z] 35)
        have BH0 := blk_new wr #[.int .i64 x, .int .i64 y, .int .i64 z] 35 rfl
        have Hps_74 := Lib.hid (Hps_43.out.below bN)
        have BP_75 := BP_44.to bN
        have Hqs_76 := Lib.hid (Hqs_45.out.below bN)
        have BQ_77 := BQ_46.to bN
        have Hms_78 := Lib.hid (Hms_47.out.below bN)
        have BM_79 := BM_48.to bN
        have b_80 := below_to hbw bN
        have b4_81 := below_to hb4 bN
        clear Hps_43 BP_44 Hqs_45 BQ_46 Hms_47 BM_48 hbw hb4
        clear bN
        have q0 := BQ_77.cell0 (i := 0) rfl
        have q1 := BH0.cell0 (i := 0) rfl
        have q2 := BH0.cell0 (i := 1) rfl
        have q3 := BH0.cell0 (i := 2) rfl
        go_wp2_with fail
        clear q0 q1 q2 q3
        generalize wr.alloc (.cells #[.int .i64 x, .int .i64 y, .int .i64 z] 35) = U6 at *
        obtain ⟨bh, hbk⟩ : ∃ b, wr.heap.size = b := ⟨_, rfl⟩
        rw [hbk] at BH0 ⊢
        clear hbk
        clear qP t1 t2 t3 hcx
        refine (HCT.out _ Hqs_76.out).mono ?_
        rintro e w8 ⟨ac, cc, rfl, hoc, bl⟩
        have Hcs0 := Lib.hid (own_hs hoc)
        clear hoc HCT
        have Hps_82 := Lib.hid (Hps_74.out.below bl)
        have BP_83 := BP_75.to bl
        have Hqs_84 := Lib.hid (Hqs_76.out.below bl)
        have BQ_85 := BQ_77.to bl
        have Hms_86 := Lib.hid (Hms_78.out.below bl)
        have BM_87 := BM_79.to bl
        have b_88 := below_to b_80 bl
        have b4_89 := below_to b4_81 bl
        have BH_90 := BH0.to bl
        clear Hps_74 BP_75 Hqs_76 BQ_77 Hms_78 BM_79 b_80 b4_81 BH0
        clear bl
        clear BH_90
        have bN := below_one w8 (.cells #[.slice ac c cc] 25)
        have BC0 := blk_new w8 #[.slice ac c cc] 25 rfl
        have Hps_91 := Lib.hid (Hps_82.out.below bN)
        have BP_92 := BP_83.to bN
        have Hqs_93 := Lib.hid (Hqs_84.out.below bN)
        have BQ_94 := BQ_85.to bN
        have Hms_95 := Lib.hid (Hms_86.out.below bN)
        have BM_96 := BM_87.to bN
        have b_97 := below_to b_88 bN
        have b4_98 := below_to b4_89 bN
        have Hcs_99 := Lib.hid (Hcs0.out.below bN)
        clear Hps_82 BP_83 Hqs_84 BQ_85 Hms_86 BM_87 b_88 b4_89 Hcs0
        clear bN
        go_wp2_with fail
        generalize w8.alloc (.cells #[.slice ac c cc] 25) = U7 at *
        obtain ⟨bc, hbk⟩ : ∃ b, w8.heap.size = b := ⟨_, rfl⟩
        rw [hbk] at BC0 ⊢
        clear hbk
        have HWA := Lib.hid (fun V (h : HsAt V am ms) (k : HsAt V ac cs) => impl_wi am ac m c cm cc ms cs V HLm.out HLc.out (by omega) (by omega) M64.out C64.out h k)
        rw [HWD.out] at HWA
        have HWB := Lib.hid (fun V (h : HsAt V ac cs) (k : HsAt V aq qs) => impl_wi ac aq c q cc cq cs qs V HLc.out HLqs.out (by omega) (by omega) C64.out H64qs.out h k)
        rw [HWE.out] at HWB
        have HNA := Lib.hid (fun V (h : HsAt V am ms) => impl_who am m cm ms V HLm.out (by omega) M64.out h)
        have HNB := Lib.hid (fun V (h : HsAt V aq qs) => impl_who aq q cq qs V HLqs.out (by omega) H64qs.out h)
        have hle2 := HWH.out
        generalize whoN ms = na at *
        generalize whoN qs = nb at *
        have hd := decide_eq_true hle2
        go_cut [2] from 102 to 119 (fun s6 wx => s6 = .bool true ∧ Below U7.heap.size U7 wx)
        case first =>
          refine wp_region_held_drew (S := (fun w' => w'.cell? ⟨bq, 0, none⟩ = some (.slice aq q cq) ∧ w'.cell? ⟨bm, 0, none⟩ = some (.slice am m cm) ∧ w'.cell? ⟨bc, 0, none⟩ = some (.slice ac c cc))) (by kernel_rfl) ?_ (fun hHeld => ?_)
          · (refine keepb3 BQ_94 BM_96 BC0 ?_; repeat (first | exact Below.refl _ _ | refine below_drw ?_ | refine below_to ?_ (by assumption)))
          refine wpAnyH_take (i := 0) (oi := mos0) (v := ?_) rfl (by as_aux_lemma => kernel_rfl) (by as_aux_lemma => kernel_rfl) (by as_aux_lemma => kernel_rfl) (fun _ _ _ h => h) (Or.inl ⟨by rfl, ?_⟩) (by assumption) ?_
          rotate_left
          · unfold mos0; intro w hSw; (try dsimp only at hSw); go_simp; try (with_reducible rfl)
          try simp only [mos0, Act.put, List.setIfInBounds_toArray, List.set_cons_zero, List.set_cons_succ]
          refine wpAnyH_take (i := 1) (oi := mos1) (v := ?_) rfl (by as_aux_lemma => kernel_rfl) (by as_aux_lemma => kernel_rfl) (by as_aux_lemma => kernel_rfl) (fun _ _ _ h => h) (Or.inl ⟨by rfl, ?_⟩) (by assumption) ?_
          rotate_left
          · unfold mos1; intro w hSw; (try dsimp only at hSw); go_simp; try (with_reducible rfl)
          try simp only [mos1, Act.put, List.setIfInBounds_toArray, List.set_cons_zero, List.set_cons_succ]
          refine wpAnyH_take (i := 2) (oi := mos2) (v := ?_) rfl (by as_aux_lemma => kernel_rfl) (by as_aux_lemma => kernel_rfl) (by as_aux_lemma => kernel_rfl) (fun _ _ _ h => h) (Or.inl ⟨by rfl, ?_⟩) (by assumption) ?_
          rotate_left
          · unfold mos2; intro w hSw; (try dsimp only at hSw); go_simp; try (with_reducible rfl)
          try simp only [mos2, Act.put, List.setIfInBounds_toArray, List.set_cons_zero, List.set_cons_succ]
          refine wpAnyH_take (i := 3) (oi := mos3) (v := ?_) rfl (by as_aux_lemma => kernel_rfl) (by as_aux_lemma => kernel_rfl) (by as_aux_lemma => kernel_rfl) (fun _ _ _ h => h) (Or.inl ⟨by rfl, ?_⟩) (by assumption) ?_
          rotate_left
          · unfold mos3; intro w hSw; (try dsimp only at hSw); go_simp; try (with_reducible rfl)
          try simp only [mos3, Act.put, List.setIfInBounds_toArray, List.set_cons_zero, List.set_cons_succ]
          refine wpAnyH_ready (rs := [4]) (by as_aux_lemma => kernel_rfl) (by simp) ?_
          refine (AllReadyH.cons (o := mos4) rfl (fun K hK => ?_) AllReadyH.nil)
          unfold mos4
          go_simp
          (go_at_call 22; (with_reducible refine (HWA.out _ ?_ ?_).mono ?_); (focus ((refine Hms_95.out.below ?_); repeat (first | exact Below.refl _ _ | refine below_drw ?_ | refine below_to ?_ (by assumption)))); (focus ((refine Hcs_99.out.below ?_); repeat (first | exact Below.refl _ _ | refine below_drw ?_ | refine below_to ?_ (by assumption)))); rintro e z0 ⟨rfl, bl0⟩)
          try go_wp2_with fail
          refine hK.out _ _ ?_ (fun hHeld2 => ?_)
          · (refine keepb3 BQ_94 BM_96 BC0 ?_; repeat (first | exact Below.refl _ _ | refine below_drw ?_ | refine below_to ?_ (by assumption)))
          clear hK K hHeld
          have hHeld := hHeld2
          clear hHeld2
          try simp only [mos4, Act.put, List.setIfInBounds_toArray, List.set_cons_zero, List.set_cons_succ]
          as_aux_lemma =>
           refine wpAnyH_take (i := 5) (oi := mos5) (v := ?_) rfl (by as_aux_lemma => kernel_rfl) (by as_aux_lemma => kernel_rfl) (by as_aux_lemma => kernel_rfl) (fun _ _ _ h => h) (Or.inl ⟨by rfl, ?_⟩) (by assumption) ?_
           rotate_left
           · unfold mos5; intro w hSw; (try dsimp only at hSw); go_simp; try (with_reducible rfl)
           try simp only [mos5, Act.put, List.setIfInBounds_toArray, List.set_cons_zero, List.set_cons_succ]
           refine wpAnyH_take (i := 6) (oi := mos6) (v := ?_) rfl (by as_aux_lemma => kernel_rfl) (by as_aux_lemma => kernel_rfl) (by as_aux_lemma => kernel_rfl) (fun _ _ _ h => h) (Or.inl ⟨by rfl, ?_⟩) (by assumption) ?_
           rotate_left
           · unfold mos6; intro w hSw; (try dsimp only at hSw); go_simp; try (with_reducible rfl)
           try simp only [mos6, Act.put, List.setIfInBounds_toArray, List.set_cons_zero, List.set_cons_succ]
           refine wpAnyH_take (i := 7) (oi := mos7) (v := ?_) rfl (by as_aux_lemma => kernel_rfl) (by as_aux_lemma => kernel_rfl) (by as_aux_lemma => kernel_rfl) (fun _ _ _ h => h) (Or.inl ⟨by rfl, ?_⟩) (by assumption) ?_
           rotate_left
           · unfold mos7; intro w hSw; (try dsimp only at hSw); go_simp; try (with_reducible rfl)
           try simp only [mos7, Act.put, List.setIfInBounds_toArray, List.set_cons_zero, List.set_cons_succ]
           refine wpAnyH_take (i := 8) (oi := mos8) (v := ?_) rfl (by as_aux_lemma => kernel_rfl) (by as_aux_lemma => kernel_rfl) (by as_aux_lemma => kernel_rfl) (fun _ _ _ h => h) (Or.inl ⟨by rfl, ?_⟩) (by assumption) ?_
           rotate_left
           · unfold mos8; intro w hSw; (try dsimp only at hSw); go_simp; try (with_reducible rfl)
           try simp only [mos8, Act.put, List.setIfInBounds_toArray, List.set_cons_zero, List.set_cons_succ]
           refine wpAnyH_ready (rs := [9]) (by as_aux_lemma => kernel_rfl) (by simp) ?_
           refine (AllReadyH.cons (o := mos9) rfl (fun K hK => ?_) AllReadyH.nil)
           unfold mos9
           go_simp
           (go_at_call 22; (with_reducible refine (HWB.out _ ?_ ?_).mono ?_); (focus ((refine Hcs_99.out.below ?_); repeat (first | exact Below.refl _ _ | refine below_drw ?_ | refine below_to ?_ (by assumption)))); (focus ((refine Hqs_93.out.below ?_); repeat (first | exact Below.refl _ _ | refine below_drw ?_ | refine below_to ?_ (by assumption)))); rintro e z1 ⟨rfl, bl1⟩)
           try go_wp2_with fail
           refine hK.out _ _ ?_ (fun hHeld2 => ?_)
           · (refine keepb3 BQ_94 BM_96 BC0 ?_; repeat (first | exact Below.refl _ _ | refine below_drw ?_ | refine below_to ?_ (by assumption)))
           clear hK K hHeld
           have hHeld := hHeld2
           clear hHeld2
           try simp only [mos9, Act.put, List.setIfInBounds_toArray, List.set_cons_zero, List.set_cons_succ]
           as_aux_lemma =>
            refine wpAnyH_take (i := 10) (oi := mos10) (v := ?_) rfl (by as_aux_lemma => kernel_rfl) (by as_aux_lemma => kernel_rfl) (by as_aux_lemma => kernel_rfl) (fun _ _ _ h => h) (Or.inl ⟨by rfl, ?_⟩) (by assumption) ?_
            rotate_left
            · unfold mos10; intro w hSw; (try dsimp only at hSw); go_simp; try (with_reducible rfl)
            try simp only [mos10, Act.put, List.setIfInBounds_toArray, List.set_cons_zero, List.set_cons_succ]
            refine wpAnyH_take (i := 11) (oi := mos11) (v := ?_) rfl (by as_aux_lemma => kernel_rfl) (by as_aux_lemma => kernel_rfl) (by as_aux_lemma => kernel_rfl) (fun _ _ _ h => h) (Or.inl ⟨by rfl, ?_⟩) (by assumption) ?_
            rotate_left
            · unfold mos11; intro w hSw; (try dsimp only at hSw); go_simp; try (with_reducible rfl)
            try simp only [mos11, Act.put, List.setIfInBounds_toArray, List.set_cons_zero, List.set_cons_succ]
            refine wpAnyH_take (i := 12) (oi := mos12) (v := ?_) rfl (by as_aux_lemma => kernel_rfl) (by as_aux_lemma => kernel_rfl) (by as_aux_lemma => kernel_rfl) (fun _ _ _ h => h) (Or.inl ⟨by rfl, ?_⟩) (by assumption) ?_
            rotate_left
            · unfold mos12; intro w hSw; (try dsimp only at hSw); go_simp; try (with_reducible rfl)
            try simp only [mos12, Act.put, List.setIfInBounds_toArray, List.set_cons_zero, List.set_cons_succ]
            refine wpAnyH_take (i := 14) (oi := mos14) (v := ?_) rfl (by as_aux_lemma => kernel_rfl) (by as_aux_lemma => kernel_rfl) (by as_aux_lemma => kernel_rfl) (fun _ _ _ h => h) (Or.inl ⟨by rfl, ?_⟩) (by assumption) ?_
            rotate_left
            · unfold mos14; intro w hSw; (try dsimp only at hSw); go_simp; try (with_reducible rfl)
            try simp only [mos14, Act.put, List.setIfInBounds_toArray, List.set_cons_zero, List.set_cons_succ]
            refine wpAnyH_ready (rs := [13]) (by as_aux_lemma => kernel_rfl) (by simp) ?_
            refine (AllReadyH.cons (o := mos13) rfl (fun K hK => ?_) AllReadyH.nil)
            unfold mos13
            go_simp
            (go_at_call 19; (with_reducible refine (HNA.out _ ?_).mono ?_); (focus ((refine Hms_95.out.below ?_); repeat (first | exact Below.refl _ _ | refine below_drw ?_ | refine below_to ?_ (by assumption)))); rintro e z2 ⟨rfl, bl2⟩)
            try go_wp2_with fail
            refine hK.out _ _ ?_ (fun hHeld2 => ?_)
            · (refine keepb3 BQ_94 BM_96 BC0 ?_; repeat (first | exact Below.refl _ _ | refine below_drw ?_ | refine below_to ?_ (by assumption)))
            clear hK K hHeld
            have hHeld := hHeld2
            clear hHeld2
            try simp only [mos13, Act.put, List.setIfInBounds_toArray, List.set_cons_zero, List.set_cons_succ]
            as_aux_lemma =>
             refine wpAnyH_ready (rs := [15]) (by as_aux_lemma => kernel_rfl) (by simp) ?_
             refine (AllReadyH.cons (o := mos15) rfl (fun K hK => ?_) AllReadyH.nil)
             unfold mos15
             go_simp
             (go_at_call 19; (with_reducible refine (HNB.out _ ?_).mono ?_); (focus ((refine Hqs_93.out.below ?_); repeat (first | exact Below.refl _ _ | refine below_drw ?_ | refine below_to ?_ (by assumption)))); rintro e z3 ⟨rfl, bl3⟩)
             try go_wp2_with fail
             refine hK.out _ _ ?_ (fun hHeld2 => ?_)
             · (refine keepb3 BQ_94 BM_96 BC0 ?_; repeat (first | exact Below.refl _ _ | refine below_drw ?_ | refine below_to ?_ (by assumption)))
             clear hK K hHeld
             have hHeld := hHeld2
             clear hHeld2
             try simp only [mos15, Act.put, List.setIfInBounds_toArray, List.set_cons_zero, List.set_cons_succ]
             as_aux_lemma =>
              refine wpAnyH_take (i := 16) (oi := mos16) (v := ?_) rfl (by as_aux_lemma => kernel_rfl) (by as_aux_lemma => kernel_rfl) (by as_aux_lemma => kernel_rfl) (fun _ _ _ h => h) (Or.inl ⟨by rfl, ?_⟩) (by assumption) ?_
              rotate_left
              · unfold mos16; intro w hSw; (try dsimp only at hSw); go_simp; try (with_reducible rfl)
              try simp only [mos16, Act.put, List.setIfInBounds_toArray, List.set_cons_zero, List.set_cons_succ]
              refine wpAnyH_take (i := 17) (oi := mos17) (v := ?_) rfl (by as_aux_lemma => kernel_rfl) (by as_aux_lemma => kernel_rfl) (by as_aux_lemma => kernel_rfl) (fun _ _ _ h => h) (Or.inl ⟨by rfl, ?_⟩) (by assumption) ?_
              rotate_left
              · unfold mos17; intro w hSw; (try dsimp only at hSw); go_simp; try (with_reducible rfl)
              try simp only [mos17, Act.put, List.setIfInBounds_toArray, List.set_cons_zero, List.set_cons_succ]
              refine wpAnyH_take (i := 18) (oi := mos18) (v := ?_) rfl (by as_aux_lemma => kernel_rfl) (by as_aux_lemma => kernel_rfl) (by as_aux_lemma => kernel_rfl) (fun _ _ _ h => h) (Or.inl ⟨by rfl, ?_⟩) (by assumption) ?_
              rotate_left
              · unfold mos18; intro w hSw; (try dsimp only at hSw); go_simp; try (with_reducible rfl)
              try simp only [mos18, Act.put, List.setIfInBounds_toArray, List.set_cons_zero, List.set_cons_succ]
              refine wpAnyH_done (by kernel_rfl) ?_ _
              go_wp2_with fail
              go_meet
              refine ⟨rfl, ?_⟩
              repeat (first | exact Below.refl _ _ | refine below_drw ?_ | refine below_to ?_ (by assumption))
        case rest =>
          obtain ⟨rfl, hb6⟩ := hcut
          rename World => wd
          have Hps_100 := Lib.hid (Hps_91.out.below hb6)
          have BP_101 := BP_92.to hb6
          have Hqs_102 := Lib.hid (Hqs_93.out.below hb6)
          have BQ_103 := BQ_94.to hb6
          have Hms_104 := Lib.hid (Hms_95.out.below hb6)
          have BM_105 := BM_96.to hb6
          have b_106 := below_to b_97 hb6
          have b4_107 := below_to b4_98 hb6
          have Hcs_108 := Lib.hid (Hcs_99.out.below hb6)
          have BC_109 := BC0.to hb6
          clear Hps_91 BP_92 Hqs_93 BQ_94 Hms_95 BM_96 b_97 b4_98 Hcs_99 BC0
          go_wp2
          go_ret
          exact ⟨rfl, b_106⟩
end Go.Proofs.Ytfndkapjclhflaa
