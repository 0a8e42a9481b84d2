/- The walk of the law FnCorners. -/
import Derived.Test.YtfndkapjclhflaaAl
import Derived.Test.YtfndkapjclhflaaAi
namespace Go.Proofs.Ytfndkapjclhflaa
open Go.RowKit
open Geo (H3)

theorem keept3 {V X : World} {B E g0 o0 g1 o1 g2 o2 : Nat} {p x y z a0 b0 c0 a1 b1 c1 a2 b2 c2 : Value} {T T' : TypeId} (h : Blk V B #[p] T) (k : Blk V E #[x, y, z] T') (t0 : Tri V g0 o0 a0 b0 c0) (t1 : Tri V g1 o1 a1 b1 c1) (t2 : Tri V g2 o2 a2 b2 c2) (hb : Below V.heap.size V X) :
    X.cell? ⟨B, 0, none⟩ = some p ∧ X.cell? ⟨E, 0, none⟩ = some x ∧ X.cell? ⟨E, 1, none⟩ = some y ∧ X.cell? ⟨E, 2, none⟩ = some z ∧ X.cell? ⟨g0, o0, none⟩ = some a0 ∧ X.cell? ⟨g0, o0 + 1, none⟩ = some b0 ∧ X.cell? ⟨g0, o0 + 2, none⟩ = some c0 ∧ X.cell? ⟨g1, o1, none⟩ = some a1 ∧ X.cell? ⟨g1, o1 + 1, none⟩ = some b1 ∧ X.cell? ⟨g1, o1 + 2, none⟩ = some c1 ∧ X.cell? ⟨g2, o2, none⟩ = some a2 ∧ X.cell? ⟨g2, o2 + 1, none⟩ = some b2 ∧ X.cell? ⟨g2, o2 + 2, none⟩ = some c2 :=
  ⟨(h.to hb).cell0 rfl, (k.to hb).cell0 rfl, (k.to hb).cell0 rfl, (k.to hb).cell0 rfl, (t0.to hb).1, (t0.to hb).2.1, (t0.to hb).2.2, (t1.to hb).1, (t1.to hb).2.1, (t1.to hb).2.2, (t2.to hb).1, (t2.to hb).2.1, (t2.to hb).2.2⟩
theorem keept4 {V X : World} {B E g0 o0 g1 o1 g2 o2 g3 o3 : Nat} {p x y z a0 b0 c0 a1 b1 c1 a2 b2 c2 a3 b3 c3 : Value} {T T' : TypeId} (h : Blk V B #[p] T) (k : Blk V E #[x, y, z] T') (t0 : Tri V g0 o0 a0 b0 c0) (t1 : Tri V g1 o1 a1 b1 c1) (t2 : Tri V g2 o2 a2 b2 c2) (t3 : Tri V g3 o3 a3 b3 c3) (hb : Below V.heap.size V X) :
    X.cell? ⟨B, 0, none⟩ = some p ∧ X.cell? ⟨E, 0, none⟩ = some x ∧ X.cell? ⟨E, 1, none⟩ = some y ∧ X.cell? ⟨E, 2, none⟩ = some z ∧ X.cell? ⟨g0, o0, none⟩ = some a0 ∧ X.cell? ⟨g0, o0 + 1, none⟩ = some b0 ∧ X.cell? ⟨g0, o0 + 2, none⟩ = some c0 ∧ X.cell? ⟨g1, o1, none⟩ = some a1 ∧ X.cell? ⟨g1, o1 + 1, none⟩ = some b1 ∧ X.cell? ⟨g1, o1 + 2, none⟩ = some c1 ∧ X.cell? ⟨g2, o2, none⟩ = some a2 ∧ X.cell? ⟨g2, o2 + 1, none⟩ = some b2 ∧ X.cell? ⟨g2, o2 + 2, none⟩ = some c2 ∧ X.cell? ⟨g3, o3, none⟩ = some a3 ∧ X.cell? ⟨g3, o3 + 1, none⟩ = some b3 ∧ X.cell? ⟨g3, o3 + 2, none⟩ = some c3 :=
  ⟨(h.to hb).cell0 rfl, (k.to hb).cell0 rfl, (k.to hb).cell0 rfl, (k.to hb).cell0 rfl, (t0.to hb).1, (t0.to hb).2.1, (t0.to hb).2.2, (t1.to hb).1, (t1.to hb).2.1, (t1.to hb).2.2, (t2.to hb).1, (t2.to hb).2.1, (t2.to hb).2.2, (t3.to hb).1, (t3.to hb).2.1, (t3.to hb).2.2⟩
theorem eql_no {tx ty td sx sy sd : Int} (h : (⟨tx, ty, td⟩ : H3) ≠ ⟨sx, sy, sd⟩) (w : World) : (if tx = sx then if ty = sy then if td = sd then Result.ok (Next.value (Value.bool true)) w else Result.ok (Next.value (Value.bool false)) w else Result.ok (Next.value (Value.bool false)) w else Result.ok (Next.value (Value.bool false)) w : Result Next) = Result.ok (Next.value (Value.bool false)) w := by
  by_cases h1 : tx = sx
  · by_cases h2 : ty = sy
    · by_cases h3 : td = sd
      · subst h1 h2 h3; exact absurd rfl h
      · rw [if_pos h1, if_pos h2, if_neg h3]
    · rw [if_pos h1, if_neg h2]
  · rw [if_neg h1]
theorem side_hq {h : H3} {x y d : Int} (k : okB h = true) (o : okS x y d = true) (w : World) :
    Calls Try.prog 15 #[.agg #[.int .i64 h.a, .int .i64 h.b, .int .i64 h.c], .agg #[.int .i64 x, .int .i64 y, .int .i64 d]] w fun e w' => e = .returned (.int .i64 (sideH h.a h.b h.c x y d)) ∧ Below w.heap.size w w' := by
  have a := ok_in64 k
  have b := okS64' o
  exact impl_side h.a h.b h.c x y d w a.1.1 a.1.2 a.2.1.1 a.2.1.2 a.2.2.1 a.2.2.2 b.1.1 b.1.2 b.2.1.1 b.2.1.2 b.2.2.1 b.2.2.2
def cop0 : Oper :=
  { dst := some 39, op := Go.Op.load 25 (Go.Operand.tmp 3), type := 25, pos := "laws.go:175", after := #[], guard := none }
def cop1 : Oper :=
  { dst := some 40, op := Go.Op.load 31 (Go.Operand.tmp 7), type := 31, pos := "laws.go:175", after := #[], guard := none }
def cop2 : Oper :=
  { dst := some 41, op := Go.Op.call { callee := Go.Callee.value (Go.Operand.func 13), args := #[Go.Operand.tmp 39, Go.Operand.tmp 40], argTypes := #[25, 31] }, type := 4, pos := "laws.go:175", after := #[{ on := 0, ground := Go.Ground.data }, { on := 1, ground := Go.Ground.data }], guard := none }
def cop3 : Oper :=
  { dst := some 42, op := Go.Op.unOp Go.UnOp.not 4 (Go.Operand.tmp 41), type := 4, pos := "laws.go:175", after := #[{ on := 2, ground := Go.Ground.data }], guard := none }
def cop4 : Oper :=
  { dst := some 43, op := Go.Op.move (Go.Operand.tmp 42), type := 4, pos := "laws.go:175", after := #[{ on := 3, ground := Go.Ground.data }, { on := 2, ground := Go.Ground.chain }], guard := none }
def cop5 : Oper :=
  { dst := some 44, op := Go.Op.load 25 (Go.Operand.tmp 3), type := 25, pos := "laws.go:175", after := #[{ on := 4, ground := Go.Ground.guard }], guard := some (4, false) }
def cop6 : Oper :=
  { dst := some 45, op := Go.Op.load 31 (Go.Operand.tmp 7), type := 31, pos := "laws.go:175", after := #[{ on := 4, ground := Go.Ground.guard }], guard := some (4, false) }
def cop7 : Oper :=
  { dst := some 46, op := Go.Op.call { callee := Go.Callee.value (Go.Operand.func 14), args := #[Go.Operand.tmp 44, Go.Operand.tmp 45], argTypes := #[25, 31] }, type := 4, pos := "laws.go:175", after := #[{ on := 5, ground := Go.Ground.data }, { on := 6, ground := Go.Ground.data }, { on := 4, ground := Go.Ground.chain }, { on := 4, ground := Go.Ground.guard }], guard := some (4, false) }
def cop8 : Oper :=
  { dst := some 47, op := Go.Op.unOp Go.UnOp.not 4 (Go.Operand.tmp 46), type := 4, pos := "laws.go:175", after := #[{ on := 7, ground := Go.Ground.data }, { on := 4, ground := Go.Ground.guard }], guard := some (4, false) }
def cop9 : Oper :=
  { dst := some 48, op := Go.Op.pick (Go.Operand.tmp 43) (Go.Operand.const (Go.Value.bool true)) (Go.Operand.tmp 47), type := 4, pos := "laws.go:175", after := #[{ on := 4, ground := Go.Ground.data }, { on := 8, ground := Go.Ground.data }], guard := none }
def cop10 : Oper :=
  { dst := some 49, op := Go.Op.move (Go.Operand.tmp 48), type := 4, pos := "laws.go:175", after := #[{ on := 9, ground := Go.Ground.data }, { on := 7, ground := Go.Ground.chain }], guard := none }
def cop11 : Oper :=
  { dst := some 50, op := Go.Op.fieldAddr 25 (Go.Operand.tmp 3) 0, type := 0, pos := "laws.go:175", after := #[{ on := 10, ground := Go.Ground.guard }], guard := some (10, false) }
def cop12 : Oper :=
  { dst := some 51, op := Go.Op.load 23 (Go.Operand.tmp 50), type := 23, pos := "laws.go:175", after := #[{ on := 11, ground := Go.Ground.data }, { on := 10, ground := Go.Ground.guard }], guard := some (10, false) }
def cop13 : Oper :=
  { dst := some 52, op := Go.Op.move (Go.Operand.tmp 6), type := 3, pos := "laws.go:175", after := #[{ on := 10, ground := Go.Ground.guard }], guard := some (10, false) }
def cop14 : Oper :=
  { dst := some 53, op := Go.Op.indexAddr 23 (Go.Operand.tmp 51) (Go.Operand.tmp 52), type := 0, pos := "laws.go:175", after := #[{ on := 12, ground := Go.Ground.data }, { on := 13, ground := Go.Ground.data }, { on := 10, ground := Go.Ground.guard }], guard := some (10, false) }
def cop15 : Oper :=
  { dst := some 54, op := Go.Op.load 35 (Go.Operand.tmp 53), type := 35, pos := "laws.go:175", after := #[{ on := 14, ground := Go.Ground.data }, { on := 10, ground := Go.Ground.guard }], guard := some (10, false) }
def cop16 : Oper :=
  { dst := some 55, op := Go.Op.load 31 (Go.Operand.tmp 7), type := 31, pos := "laws.go:175", after := #[{ on := 10, ground := Go.Ground.guard }], guard := some (10, false) }
def cop17 : Oper :=
  { dst := some 56, op := Go.Op.call { callee := Go.Callee.value (Go.Operand.func 15), args := #[Go.Operand.tmp 54, Go.Operand.tmp 55], argTypes := #[35, 31] }, type := 3, pos := "laws.go:175", after := #[{ on := 15, ground := Go.Ground.data }, { on := 16, ground := Go.Ground.data }, { on := 10, ground := Go.Ground.chain }, { on := 10, ground := Go.Ground.guard }], guard := some (10, false) }
def cop18 : Oper :=
  { dst := some 57, op := Go.Op.binOp Go.BinOp.neq 3 (Go.Operand.tmp 56) (Go.Operand.const (Go.Value.int Go.IntKind.i64 0)) 3, type := 4, pos := "laws.go:175", after := #[{ on := 17, ground := Go.Ground.data }, { on := 10, ground := Go.Ground.guard }], guard := some (10, false) }
def cop19 : Oper :=
  { dst := some 58, op := Go.Op.pick (Go.Operand.tmp 49) (Go.Operand.const (Go.Value.bool true)) (Go.Operand.tmp 57), type := 4, pos := "laws.go:175", after := #[{ on := 10, ground := Go.Ground.data }, { on := 18, ground := Go.Ground.data }], guard := none }
def cop20 : Oper :=
  { dst := some 59, op := Go.Op.move (Go.Operand.tmp 58), type := 4, pos := "laws.go:175", after := #[{ on := 19, ground := Go.Ground.data }, { on := 17, ground := Go.Ground.chain }], guard := none }
def cop21 : Oper :=
  { dst := some 60, op := Go.Op.fieldAddr 25 (Go.Operand.tmp 3) 0, type := 0, pos := "laws.go:175", after := #[{ on := 20, ground := Go.Ground.guard }], guard := some (20, false) }
def cop22 : Oper :=
  { dst := some 61, op := Go.Op.load 23 (Go.Operand.tmp 60), type := 23, pos := "laws.go:175", after := #[{ on := 21, ground := Go.Ground.data }, { on := 20, ground := Go.Ground.guard }], guard := some (20, false) }
def cop23 : Oper :=
  { dst := some 62, op := Go.Op.move (Go.Operand.tmp 6), type := 3, pos := "laws.go:175", after := #[{ on := 20, ground := Go.Ground.guard }], guard := some (20, false) }
def cop24 : Oper :=
  { dst := some 63, op := Go.Op.binOp Go.BinOp.add 3 (Go.Operand.tmp 62) (Go.Operand.const (Go.Value.int Go.IntKind.i64 1)) 3, type := 3, pos := "laws.go:175", after := #[{ on := 23, ground := Go.Ground.data }, { on := 20, ground := Go.Ground.guard }], guard := some (20, false) }
def cop25 : Oper :=
  { dst := some 64, op := Go.Op.move (Go.Operand.tmp 5), type := 3, pos := "laws.go:175", after := #[{ on := 20, ground := Go.Ground.guard }], guard := some (20, false) }
def cop26 : Oper :=
  { dst := some 65, op := Go.Op.binOp Go.BinOp.rem 3 (Go.Operand.tmp 63) (Go.Operand.tmp 64) 3, type := 3, pos := "laws.go:175", after := #[{ on := 24, ground := Go.Ground.data }, { on := 25, ground := Go.Ground.data }, { on := 20, ground := Go.Ground.guard }], guard := some (20, false) }
def cop27 : Oper :=
  { dst := some 66, op := Go.Op.indexAddr 23 (Go.Operand.tmp 61) (Go.Operand.tmp 65), type := 0, pos := "laws.go:175", after := #[{ on := 22, ground := Go.Ground.data }, { on := 26, ground := Go.Ground.data }, { on := 20, ground := Go.Ground.guard }], guard := some (20, false) }
def cop28 : Oper :=
  { dst := some 67, op := Go.Op.load 35 (Go.Operand.tmp 66), type := 35, pos := "laws.go:175", after := #[{ on := 27, ground := Go.Ground.data }, { on := 20, ground := Go.Ground.guard }], guard := some (20, false) }
def cop29 : Oper :=
  { dst := some 68, op := Go.Op.load 31 (Go.Operand.tmp 7), type := 31, pos := "laws.go:175", after := #[{ on := 20, ground := Go.Ground.guard }], guard := some (20, false) }
def cop30 : Oper :=
  { dst := some 69, op := Go.Op.call { callee := Go.Callee.value (Go.Operand.func 15), args := #[Go.Operand.tmp 67, Go.Operand.tmp 68], argTypes := #[35, 31] }, type := 3, pos := "laws.go:175", after := #[{ on := 28, ground := Go.Ground.data }, { on := 29, ground := Go.Ground.data }, { on := 20, ground := Go.Ground.chain }, { on := 20, ground := Go.Ground.guard }], guard := some (20, false) }
def cop31 : Oper :=
  { dst := some 70, op := Go.Op.binOp Go.BinOp.neq 3 (Go.Operand.tmp 69) (Go.Operand.const (Go.Value.int Go.IntKind.i64 0)) 3, type := 4, pos := "laws.go:175", after := #[{ on := 30, ground := Go.Ground.data }, { on := 20, ground := Go.Ground.guard }], guard := some (20, false) }
def cop32 : Oper :=
  { dst := some 71, op := Go.Op.pick (Go.Operand.tmp 59) (Go.Operand.const (Go.Value.bool true)) (Go.Operand.tmp 70), type := 4, pos := "laws.go:175", after := #[{ on := 20, ground := Go.Ground.data }, { on := 31, ground := Go.Ground.data }], guard := none }
def cop33 : Oper :=
  { dst := some 72, op := Go.Op.move (Go.Operand.tmp 71), type := 4, pos := "laws.go:175", after := #[{ on := 32, ground := Go.Ground.data }, { on := 30, ground := Go.Ground.chain }], guard := none }
def cop34 : Oper :=
  { dst := some 73, op := Go.Op.move (Go.Operand.tmp 6), type := 3, pos := "laws.go:175", after := #[{ on := 33, ground := Go.Ground.guard }], guard := some (33, false) }
def cop35 : Oper :=
  { dst := some 74, op := Go.Op.binOp Go.BinOp.gtr 3 (Go.Operand.tmp 73) (Go.Operand.const (Go.Value.int Go.IntKind.i64 0)) 3, type := 4, pos := "laws.go:175", after := #[{ on := 34, ground := Go.Ground.data }, { on := 33, ground := Go.Ground.guard }], guard := some (33, false) }
def cop36 : Oper :=
  { dst := some 75, op := Go.Op.move (Go.Operand.tmp 74), type := 4, pos := "laws.go:175", after := #[{ on := 35, ground := Go.Ground.data }, { on := 33, ground := Go.Ground.chain }, { on := 33, ground := Go.Ground.guard }], guard := some (33, false) }
def cop37 : Oper :=
  { dst := some 76, op := Go.Op.fieldAddr 25 (Go.Operand.tmp 3) 0, type := 0, pos := "laws.go:175", after := #[{ on := 36, ground := Go.Ground.guard }], guard := some (36, true) }
def cop38 : Oper :=
  { dst := some 77, op := Go.Op.load 23 (Go.Operand.tmp 76), type := 23, pos := "laws.go:175", after := #[{ on := 37, ground := Go.Ground.data }, { on := 36, ground := Go.Ground.guard }], guard := some (36, true) }
def cop39 : Oper :=
  { dst := some 78, op := Go.Op.move (Go.Operand.tmp 6), type := 3, pos := "laws.go:175", after := #[{ on := 36, ground := Go.Ground.guard }], guard := some (36, true) }
def cop40 : Oper :=
  { dst := some 79, op := Go.Op.binOp Go.BinOp.sub 3 (Go.Operand.tmp 78) (Go.Operand.const (Go.Value.int Go.IntKind.i64 1)) 3, type := 3, pos := "laws.go:175", after := #[{ on := 39, ground := Go.Ground.data }, { on := 36, ground := Go.Ground.guard }], guard := some (36, true) }
def cop41 : Oper :=
  { dst := some 80, op := Go.Op.indexAddr 23 (Go.Operand.tmp 77) (Go.Operand.tmp 79), type := 0, pos := "laws.go:175", after := #[{ on := 38, ground := Go.Ground.data }, { on := 40, ground := Go.Ground.data }, { on := 36, ground := Go.Ground.guard }], guard := some (36, true) }
def cop42 : Oper :=
  { dst := some 81, op := Go.Op.load 35 (Go.Operand.tmp 80), type := 35, pos := "laws.go:175", after := #[{ on := 41, ground := Go.Ground.data }, { on := 36, ground := Go.Ground.guard }], guard := some (36, true) }
def cop43 : Oper :=
  { dst := some 82, op := Go.Op.fieldAddr 25 (Go.Operand.tmp 3) 0, type := 0, pos := "laws.go:175", after := #[{ on := 36, ground := Go.Ground.guard }], guard := some (36, true) }
def cop44 : Oper :=
  { dst := some 83, op := Go.Op.load 23 (Go.Operand.tmp 82), type := 23, pos := "laws.go:175", after := #[{ on := 43, ground := Go.Ground.data }, { on := 36, ground := Go.Ground.guard }], guard := some (36, true) }
def cop45 : Oper :=
  { dst := some 84, op := Go.Op.move (Go.Operand.tmp 6), type := 3, pos := "laws.go:175", after := #[{ on := 36, ground := Go.Ground.guard }], guard := some (36, true) }
def cop46 : Oper :=
  { dst := some 85, op := Go.Op.indexAddr 23 (Go.Operand.tmp 83) (Go.Operand.tmp 84), type := 0, pos := "laws.go:175", after := #[{ on := 44, ground := Go.Ground.data }, { on := 45, ground := Go.Ground.data }, { on := 36, ground := Go.Ground.guard }], guard := some (36, true) }
def cop47 : Oper :=
  { dst := some 86, op := Go.Op.load 35 (Go.Operand.tmp 85), type := 35, pos := "laws.go:175", after := #[{ on := 46, ground := Go.Ground.data }, { on := 36, ground := Go.Ground.guard }], guard := some (36, true) }
def cop48 : Oper :=
  { dst := some 87, op := Go.Op.call { callee := Go.Callee.value (Go.Operand.func 16), args := #[Go.Operand.tmp 81, Go.Operand.tmp 86], argTypes := #[35, 35] }, type := 4, pos := "laws.go:175", after := #[{ on := 42, ground := Go.Ground.data }, { on := 47, ground := Go.Ground.data }, { on := 36, ground := Go.Ground.chain }, { on := 36, ground := Go.Ground.guard }], guard := some (36, true) }
def cop49 : Oper :=
  { dst := some 88, op := Go.Op.unOp Go.UnOp.not 4 (Go.Operand.tmp 87), type := 4, pos := "laws.go:175", after := #[{ on := 48, ground := Go.Ground.data }, { on := 36, ground := Go.Ground.guard }], guard := some (36, true) }
def cop50 : Oper :=
  { dst := some 89, op := Go.Op.pick (Go.Operand.tmp 75) (Go.Operand.tmp 88) (Go.Operand.const (Go.Value.bool false)), type := 4, pos := "laws.go:175", after := #[{ on := 36, ground := Go.Ground.data }, { on := 49, ground := Go.Ground.data }, { on := 33, ground := Go.Ground.guard }], guard := some (33, false) }
def cop51 : Oper :=
  { dst := some 90, op := Go.Op.pick (Go.Operand.tmp 72) (Go.Operand.const (Go.Value.bool true)) (Go.Operand.tmp 89), type := 4, pos := "laws.go:175", after := #[{ on := 33, ground := Go.Ground.data }, { on := 50, ground := Go.Ground.data }], guard := none }
def cop52 : Oper :=
  { dst := some 91, op := Go.Op.move (Go.Operand.tmp 90), type := 4, pos := "laws.go:175", after := #[{ on := 51, ground := Go.Ground.data }, { on := 48, ground := Go.Ground.chain }], guard := none }
def cop53 : Oper :=
  { dst := some 92, op := Go.Op.move (Go.Operand.tmp 4), type := 27, pos := "laws.go:175", after := #[{ on := 52, ground := Go.Ground.guard }], guard := some (52, false) }
def cop54 : Oper :=
  { dst := some 93, op := Go.Op.move (Go.Operand.tmp 6), type := 3, pos := "laws.go:175", after := #[{ on := 52, ground := Go.Ground.guard }], guard := some (52, false) }
def cop55 : Oper :=
  { dst := some 94, op := Go.Op.binOp Go.BinOp.add 3 (Go.Operand.tmp 93) (Go.Operand.const (Go.Value.int Go.IntKind.i64 1)) 3, type := 3, pos := "laws.go:175", after := #[{ on := 54, ground := Go.Ground.data }, { on := 52, ground := Go.Ground.guard }], guard := some (52, false) }
def cop56 : Oper :=
  { dst := some 95, op := Go.Op.move (Go.Operand.tmp 5), type := 3, pos := "laws.go:175", after := #[{ on := 52, ground := Go.Ground.guard }], guard := some (52, false) }
def cop57 : Oper :=
  { dst := some 96, op := Go.Op.binOp Go.BinOp.rem 3 (Go.Operand.tmp 94) (Go.Operand.tmp 95) 3, type := 3, pos := "laws.go:175", after := #[{ on := 55, ground := Go.Ground.data }, { on := 56, ground := Go.Ground.data }, { on := 52, ground := Go.Ground.guard }], guard := some (52, false) }
def cop58 : Oper :=
  { dst := some 97, op := Go.Op.indexAddr 27 (Go.Operand.tmp 92) (Go.Operand.tmp 96), type := 0, pos := "laws.go:175", after := #[{ on := 53, ground := Go.Ground.data }, { on := 57, ground := Go.Ground.data }, { on := 52, ground := Go.Ground.guard }], guard := some (52, false) }
def cop59 : Oper :=
  { dst := some 98, op := Go.Op.load 31 (Go.Operand.tmp 97), type := 31, pos := "laws.go:175", after := #[{ on := 58, ground := Go.Ground.data }, { on := 52, ground := Go.Ground.guard }], guard := some (52, false) }
def cop60 : Oper :=
  { dst := some 99, op := Go.Op.load 31 (Go.Operand.tmp 7), type := 31, pos := "laws.go:175", after := #[{ on := 52, ground := Go.Ground.guard }], guard := some (52, false) }
def cop61 : Oper :=
  { dst := some 100, op := Go.Op.binOp Go.BinOp.eql 31 (Go.Operand.tmp 98) (Go.Operand.tmp 99) 31, type := 4, pos := "laws.go:175", after := #[{ on := 59, ground := Go.Ground.data }, { on := 60, ground := Go.Ground.data }, { on := 52, ground := Go.Ground.guard }], guard := some (52, false) }
def cop62 : Oper :=
  { dst := some 101, op := Go.Op.pick (Go.Operand.tmp 91) (Go.Operand.const (Go.Value.bool true)) (Go.Operand.tmp 100), type := 4, pos := "laws.go:175", after := #[{ on := 52, ground := Go.Ground.data }, { on := 61, ground := Go.Ground.data }], guard := none }
set_option maxRecDepth 100000 in
set_option maxHeartbeats 6400000 in
theorem law_corners (a : Option Addr) (len cap : Nat) (w : World) (_hm : len ≤ maxLen) (hB : BytesAt w a len) :
    Calls Try.prog 3 #[.slice a len cap] w fun e w' => e = .returned (.bool true) ∧ Below w.heap.size w w' := by
  by_cases hle : (1048576 : Int) < (len : Int)
  · go_enter Try.func3, Try.ntmps3
    go_wp2
    go_ret
    exact ⟨rfl, Below.refl _ _⟩
  have HB := Lib.hid hB
  have hl : len ≤ 1048576 := by omega
  clear hB
  go_enter Try.func3, Try.ntmps3
  go_wp2_with fail
  refine (make_area w a len cap 1 (by omega) hl HB.out).mono ?_
  rintro e w1 ⟨ps, x0, y0, u0, v0, ap, cp, hAF, rfl, ho1, bl⟩
  have HFps := Lib.hid hAF
  have Hps0 := Lib.hid (own_hs ho1)
  have HZps := Lib.hid (own_nil ho1)
  clear hAF ho1
  obtain ⟨p, hp⟩ : ∃ p, ps.length = p := ⟨_, rfl⟩
  rw [hp] at HZps ⊢
  have HLps := Lib.hid hp
  clear hp
  have b0 := bl
  clear bl
  have HRps := Lib.hid HFps.out.1
  have HNps := Lib.hid HFps.out.2.1
  have hpl : p ≤ 10 := by have := HFps.out.2.2.1; have := HLps.out; omega
  have H64ps := Lib.hid (fun h hh => ok_in64 (rok_all HRps.out h hh))
  have hp3 : 3 ≤ p := by have := poly_len HRps.out HNps.out; have := HLps.out; omega
  have HCO := Lib.hid (fun V (h : HsAt V ap ps) => impl_cor ap p cp ps V HLps.out (by omega) H64ps.out h)
  rw [cor_pos HLps.out HRps.out] at HCO
  unfold SpW at HCO
  rw [corL_len] at HCO
  have HXJ := Lib.hid (fun i (h : i < p) => corL_get ps h)
  generalize corL ps p = cs at *
  have bN := below_one w1 (.cells #[.slice ap p cp] 25)
  have BP0 := blk_new w1 #[.slice ap p cp] 25 rfl
  have b_1 := below_to b0 bN
  have Hps_2 := Lib.hid (Hps0.out.below bN)
  clear b0 Hps0
  clear bN
  have q0 := BP0.cell0 (i := 0) rfl
  go_wp2_with fail
  clear q0
  generalize w1.alloc (.cells #[.slice ap p cp] 25) = U1 at *
  obtain ⟨bp, hbk⟩ : ∃ b, w1.heap.size = b := ⟨_, rfl⟩
  rw [hbk] at BP0 ⊢
  clear hbk
  refine (HCO.out _ Hps_2.out).mono ?_
  rintro e w4 ⟨ac, cc, rfl, ho4, bl⟩
  have HCS0 := Lib.hid (own_hs ho4)
  clear ho4 HCO
  have b_3 := below_to b_1 bl
  have Hps_4 := Lib.hid (Hps_2.out.below bl)
  have BP_5 := BP0.to bl
  clear b_1 Hps_2 BP0
  clear bl
  have HVD := Lib.hid (fun V => impl_void ap p cp V)
  rw [show ((p : Int) == 0) = false from eq_b (by omega)] at HVD
  obtain ⟨g, o, rfl, _⟩ := Hps_4.out 0 _ (List.getElem?_eq_getElem (List.length_pos_iff.2 HNps.out))
  obtain ⟨g', o', rfl, _⟩ := HCS0.out 0 _ (HXJ.out 0 (by omega))
  have q0 := BP_5.cell0 (i := 0) rfl
  go_wp2_with fail
  clear q0
  refine (HVD.out _).mono ?_
  rintro e v1 ⟨rfl, bl⟩
  have b_6 := below_to b_3 bl
  have Hps_7 := Lib.hid (Hps_4.out.below bl)
  have BP_8 := BP_5.to bl
  have HCS_9 := Lib.hid (HCS0.out.below bl)
  clear b_3 Hps_4 BP_5 HCS0
  clear bl
  clear HVD
  go_wp2
  go_loopw [34] (fun v wr => ∃ i : Nat, i ≤ p ∧ v = .int .i64 i ∧ Below w.heap.size w wr ∧ Below v1.heap.size v1 wr) (fun v _ => p - (intOf v).toNat)
  case atStart => exact ⟨0, by omega, rfl, b_6, Below.refl _ _⟩
  case round =>
    obtain ⟨i, hk, rfl, hbw, hb4⟩ := hrel
    clear b_6
    have Hps_10 := Lib.hid (Hps_7.out.below hb4)
    have BP_11 := BP_8.to hb4
    have HCS_12 := Lib.hid (HCS_9.out.below hb4)
    by_cases hip : i < p
    · have hil : i < ps.length := by rw [HLps.out]; exact hip
      obtain ⟨f1, f2, f3, f4, f5, f6⟩ := corner_facts HRps.out HNps.out hil
      rw [HLps.out] at f5 f6
      have hj : (i + 1) % p < p := Nat.mod_lt _ (by omega)
      have hjl : (i + 1) % p < ps.length := by rw [HLps.out]; exact hj
      obtain ⟨_, _, e1, hc1⟩ := Hps_10.out i _ (List.getElem?_eq_getElem hil)
      cases e1
      rw [← atI_get hil] at hc1
      obtain ⟨_, _, e1, hc2⟩ := Hps_10.out ((i + 1) % p) _ (List.getElem?_eq_getElem hjl)
      cases e1
      rw [← atI_get hjl] at hc2
      obtain ⟨_, _, e1, hc3⟩ := HCS_12.out i _ (HXJ.out i hip)
      cases e1
      obtain ⟨_, _, e1, hc4⟩ := HCS_12.out ((i + 1) % p) _ (HXJ.out _ hj)
      cases e1
      have hm2 : (((i : Int) + 1).tmod (p : Int)) = (((i + 1) % p : Nat) : Int) := by rw [Int.tmod_eq_emod_of_nonneg (by omega)]; simp
      have hw1 : IntKind.i64.wrap ((i : Int) + 1) = (i : Int) + 1 := IntWalk.i64_in _ (by omega)
      have hp0 : ¬ p = 0 := by omega
      have ok1 := Lib.hid (rok_all HRps.out _ (atI_mem hil))
      have ok2 := Lib.hid (rok_all HRps.out _ (atI_mem hjl))
      have HBE := Lib.hid (fun h0 => edge_before HRps.out HNps.out (i := i) h0 hil)
      have HOK := Lib.hid f1
      have HHS := Lib.hid (fun V (h : HsAt V (some ⟨g, o, none⟩) ps) => impl_has _ p cp ps (crA ps i).a (crA ps i).b (crA ps i).c V HLps.out (by omega) H64ps.out (okS64' HOK.out) h)
      rw [f2] at HHS
      have HIC := Lib.hid (fun V (h : HsAt V (some ⟨g, o, none⟩) ps) => impl_isc _ p cp ps (crA ps i).a (crA ps i).b (crA ps i).c V HLps.out (by omega) H64ps.out h)
      rw [show isC ps ⟨(crA ps i).a, (crA ps i).b, (crA ps i).c⟩ = true from f3] at HIC
      have HS1 := Lib.hid (fun V => side_hq ok1.out HOK.out V)
      rw [f4] at HS1
      have HS2 := Lib.hid (fun V => side_hq ok2.out HOK.out V)
      rw [f5] at HS2
      clear f1 f2 f3 f4 f5
      generalize (i + 1) % p = j at *
      generalize crA ps i = s at *
      generalize crA ps j = t at *
      obtain ⟨sx, sy, sd⟩ := s
      obtain ⟨tx, ty, td⟩ := t
      generalize he1 : atI ps i = e1 at *
      generalize atI ps j = e2 at *
      obtain ⟨a1, b1, c1⟩ := e1
      obtain ⟨a2, b2, c2⟩ := e2
      simp only at HHS HIC HS1 HS2 hc1 hc2 hc3 hc4
      obtain ⟨r1, r2, r3⟩ := id hc3
      clear hc3
      have hq1 := r1
      have hq2 := r2
      have hq3 := r3
      clear r1 r2 r3
      have bN := below_one wr (.cells #[.int .i64 sx, .int .i64 sy, .int .i64 sd] 31)
      have BS0 := blk_new wr #[.int .i64 sx, .int .i64 sy, .int .i64 sd] 31 rfl
      have Hps_13 := Lib.hid (Hps_10.out.below bN)
      have BP_14 := BP_11.to bN
      have HCS_15 := Lib.hid (HCS_12.out.below bN)
      have b_16 := below_to hbw bN
      have b4_17 := below_to hb4 bN
      have t1_18 := hc1.to bN
      have t2_19 := hc2.to bN
      have t4_20 := hc4.to bN
      clear Hps_10 BP_11 HCS_12 hbw hb4 hc1 hc2 hc4
      clear bN
      go_wp2_with fail
      generalize wr.alloc (.cells #[.int .i64 sx, .int .i64 sy, .int .i64 sd] 31) = U5 at *
      obtain ⟨bs, hbk⟩ : ∃ b, wr.heap.size = b := ⟨_, rfl⟩
      rw [hbk] at BS0 ⊢
      clear hbk
      clear hq1 hq2 hq3
      go_cut [101] from 39 to 101 (fun s6 wx => s6 = .bool false ∧ Below U5.heap.size U5 wx)
      case first =>
        have HEQ := Lib.hid (eql_no f6)
        clear f6
        by_cases hi0 : i = 0
        · have hgt : decide (0 < i) = false := decide_eq_false (by omega)
          have hgt2 : decide ((0 : Int) < (i : Int)) = false := decide_eq_false (by omega)
          clear hi0
          refine wp_region_held_drew (S := (fun w' => w'.cell? ⟨bp, 0, none⟩ = some (.slice (some ⟨g, o, none⟩) p cp) ∧ w'.cell? ⟨bs, 0, none⟩ = some (.int .i64 sx) ∧ w'.cell? ⟨bs, 1, none⟩ = some (.int .i64 sy) ∧ w'.cell? ⟨bs, 2, none⟩ = some (.int .i64 sd) ∧ w'.cell? ⟨g, o + i * 3, none⟩ = some (.int .i64 a1) ∧ w'.cell? ⟨g, o + i * 3 + 1, none⟩ = some (.int .i64 b1) ∧ w'.cell? ⟨g, o + i * 3 + 2, none⟩ = some (.int .i64 c1) ∧ w'.cell? ⟨g, o + j * 3, none⟩ = some (.int .i64 a2) ∧ w'.cell? ⟨g, o + j * 3 + 1, none⟩ = some (.int .i64 b2) ∧ w'.cell? ⟨g, o + j * 3 + 2, none⟩ = some (.int .i64 c2) ∧ w'.cell? ⟨g', o' + j * 3, none⟩ = some (.int .i64 tx) ∧ w'.cell? ⟨g', o' + j * 3 + 1, none⟩ = some (.int .i64 ty) ∧ w'.cell? ⟨g', o' + j * 3 + 2, none⟩ = some (.int .i64 td))) (by kernel_rfl) ?_ (fun hHeld => ?_)
          · (refine keept3 BP_14 BS0 t1_18 t2_19 t4_20 ?_; repeat (first | exact Below.refl _ _ | refine below_drw ?_ | refine below_to ?_ (by assumption)))
          refine wpAnyH_take (i := 0) (oi := cop0) (v := ?_) rfl (by as_aux_lemma => kernel_rfl) (by as_aux_lemma => kernel_rfl) (by as_aux_lemma => kernel_rfl) (fun _ _ _ h => h) (Or.inl ⟨by rfl, ?_⟩) (by assumption) ?_
          rotate_left
          · unfold cop0; intro w hSw; (try dsimp only at hSw); go_simp; try (with_reducible rfl)
          try simp only [cop0, Act.put, List.setIfInBounds_toArray, List.set_cons_zero, List.set_cons_succ]
          refine wpAnyH_take (i := 1) (oi := cop1) (v := ?_) rfl (by as_aux_lemma => kernel_rfl) (by as_aux_lemma => kernel_rfl) (by as_aux_lemma => kernel_rfl) (fun _ _ _ h => h) (Or.inl ⟨by rfl, ?_⟩) (by assumption) ?_
          rotate_left
          · unfold cop1; intro w hSw; (try dsimp only at hSw); go_simp; try (with_reducible rfl)
          try simp only [cop1, Act.put, List.setIfInBounds_toArray, List.set_cons_zero, List.set_cons_succ]
          refine wpAnyH_ready (rs := [2]) (by as_aux_lemma => kernel_rfl) (by simp) ?_
          refine (AllReadyH.cons (o := cop2) rfl (fun K hK => ?_) AllReadyH.nil)
          unfold cop2
          go_simp
          (go_at_call 13; (with_reducible refine (HHS.out _ ?_).mono ?_); (focus ((refine Hps_13.out.below ?_); repeat (first | exact Below.refl _ _ | refine below_drw ?_ | refine below_to ?_ (by assumption)))); rintro e z0 ⟨rfl, bl0⟩)
          try go_wp2_with fail
          refine hK.out _ _ ?_ (fun hHeld2 => ?_)
          · (refine keept3 BP_14 BS0 t1_18 t2_19 t4_20 ?_; repeat (first | exact Below.refl _ _ | refine below_drw ?_ | refine below_to ?_ (by assumption)))
          clear hK K hHeld
          have hHeld := hHeld2
          clear hHeld2
          try simp only [cop2, Act.put, List.setIfInBounds_toArray, List.set_cons_zero, List.set_cons_succ]
          as_aux_lemma =>
           refine wpAnyH_take (i := 3) (oi := cop3) (v := ?_) rfl (by as_aux_lemma => kernel_rfl) (by as_aux_lemma => kernel_rfl) (by as_aux_lemma => kernel_rfl) (fun _ _ _ h => h) (Or.inl ⟨by rfl, ?_⟩) (by assumption) ?_
           rotate_left
           · unfold cop3; intro w hSw; (try dsimp only at hSw); go_simp; try (with_reducible rfl)
           try simp only [cop3, Act.put, List.setIfInBounds_toArray, List.set_cons_zero, List.set_cons_succ]
           refine wpAnyH_take (i := 4) (oi := cop4) (v := ?_) rfl (by as_aux_lemma => kernel_rfl) (by as_aux_lemma => kernel_rfl) (by as_aux_lemma => kernel_rfl) (fun _ _ _ h => h) (Or.inl ⟨by rfl, ?_⟩) (by assumption) ?_
           rotate_left
           · unfold cop4; intro w hSw; (try dsimp only at hSw); go_simp; try (with_reducible rfl)
           try simp only [cop4, Act.put, List.setIfInBounds_toArray, List.set_cons_zero, List.set_cons_succ]
           refine wpAnyH_take (i := 5) (oi := cop5) (v := ?_) rfl (by as_aux_lemma => kernel_rfl) (by as_aux_lemma => kernel_rfl) (by as_aux_lemma => kernel_rfl) (fun _ _ _ h => h) (Or.inl ⟨by rfl, ?_⟩) (by assumption) ?_
           rotate_left
           · unfold cop5; intro w hSw; (try dsimp only at hSw); go_simp; try (with_reducible rfl)
           try simp only [cop5, Act.put, List.setIfInBounds_toArray, List.set_cons_zero, List.set_cons_succ]
           refine wpAnyH_take (i := 6) (oi := cop6) (v := ?_) rfl (by as_aux_lemma => kernel_rfl) (by as_aux_lemma => kernel_rfl) (by as_aux_lemma => kernel_rfl) (fun _ _ _ h => h) (Or.inl ⟨by rfl, ?_⟩) (by assumption) ?_
           rotate_left
           · unfold cop6; intro w hSw; (try dsimp only at hSw); go_simp; try (with_reducible rfl)
           try simp only [cop6, Act.put, List.setIfInBounds_toArray, List.set_cons_zero, List.set_cons_succ]
           refine wpAnyH_ready (rs := [7]) (by as_aux_lemma => kernel_rfl) (by simp) ?_
           refine (AllReadyH.cons (o := cop7) rfl (fun K hK => ?_) AllReadyH.nil)
           unfold cop7
           go_simp
           (go_at_call 14; (with_reducible refine (HIC.out _ ?_).mono ?_); (focus ((refine Hps_13.out.below ?_); repeat (first | exact Below.refl _ _ | refine below_drw ?_ | refine below_to ?_ (by assumption)))); rintro e z1 ⟨rfl, bl1⟩)
           try go_wp2_with fail
           refine hK.out _ _ ?_ (fun hHeld2 => ?_)
           · (refine keept3 BP_14 BS0 t1_18 t2_19 t4_20 ?_; repeat (first | exact Below.refl _ _ | refine below_drw ?_ | refine below_to ?_ (by assumption)))
           clear hK K hHeld
           have hHeld := hHeld2
           clear hHeld2
           try simp only [cop7, Act.put, List.setIfInBounds_toArray, List.set_cons_zero, List.set_cons_succ]
           as_aux_lemma =>
            refine wpAnyH_take (i := 8) (oi := cop8) (v := ?_) rfl (by as_aux_lemma => kernel_rfl) (by as_aux_lemma => kernel_rfl) (by as_aux_lemma => kernel_rfl) (fun _ _ _ h => h) (Or.inl ⟨by rfl, ?_⟩) (by assumption) ?_
            rotate_left
            · unfold cop8; intro w hSw; (try dsimp only at hSw); go_simp; try (with_reducible rfl)
            try simp only [cop8, Act.put, List.setIfInBounds_toArray, List.set_cons_zero, List.set_cons_succ]
            refine wpAnyH_take (i := 9) (oi := cop9) (v := ?_) rfl (by as_aux_lemma => kernel_rfl) (by as_aux_lemma => kernel_rfl) (by as_aux_lemma => kernel_rfl) (fun _ _ _ h => h) (Or.inl ⟨by rfl, ?_⟩) (by assumption) ?_
            rotate_left
            · unfold cop9; intro w hSw; (try dsimp only at hSw); go_simp; try (with_reducible rfl)
            try simp only [cop9, Act.put, List.setIfInBounds_toArray, List.set_cons_zero, List.set_cons_succ]
            refine wpAnyH_take (i := 10) (oi := cop10) (v := ?_) rfl (by as_aux_lemma => kernel_rfl) (by as_aux_lemma => kernel_rfl) (by as_aux_lemma => kernel_rfl) (fun _ _ _ h => h) (Or.inl ⟨by rfl, ?_⟩) (by assumption) ?_
            rotate_left
            · unfold cop10; intro w hSw; (try dsimp only at hSw); go_simp; try (with_reducible rfl)
            try simp only [cop10, Act.put, List.setIfInBounds_toArray, List.set_cons_zero, List.set_cons_succ]
            refine wpAnyH_take (i := 11) (oi := cop11) (v := ?_) rfl (by as_aux_lemma => kernel_rfl) (by as_aux_lemma => kernel_rfl) (by as_aux_lemma => kernel_rfl) (fun _ _ _ h => h) (Or.inl ⟨by rfl, ?_⟩) (by assumption) ?_
            rotate_left
            · unfold cop11; intro w hSw; (try dsimp only at hSw); go_simp; try (with_reducible rfl)
            try simp only [cop11, Act.put, List.setIfInBounds_toArray, List.set_cons_zero, List.set_cons_succ]
            refine wpAnyH_take (i := 12) (oi := cop12) (v := ?_) rfl (by as_aux_lemma => kernel_rfl) (by as_aux_lemma => kernel_rfl) (by as_aux_lemma => kernel_rfl) (fun _ _ _ h => h) (Or.inl ⟨by rfl, ?_⟩) (by assumption) ?_
            rotate_left
            · unfold cop12; intro w hSw; (try dsimp only at hSw); go_simp; try (with_reducible rfl)
            try simp only [cop12, Act.put, List.setIfInBounds_toArray, List.set_cons_zero, List.set_cons_succ]
            refine wpAnyH_take (i := 13) (oi := cop13) (v := ?_) rfl (by as_aux_lemma => kernel_rfl) (by as_aux_lemma => kernel_rfl) (by as_aux_lemma => kernel_rfl) (fun _ _ _ h => h) (Or.inl ⟨by rfl, ?_⟩) (by assumption) ?_
            rotate_left
            · unfold cop13; intro w hSw; (try dsimp only at hSw); go_simp; try (with_reducible rfl)
            try simp only [cop13, Act.put, List.setIfInBounds_toArray, List.set_cons_zero, List.set_cons_succ]
            refine wpAnyH_take (i := 14) (oi := cop14) (v := ?_) rfl (by as_aux_lemma => kernel_rfl) (by as_aux_lemma => kernel_rfl) (by as_aux_lemma => kernel_rfl) (fun _ _ _ h => h) (Or.inl ⟨by rfl, ?_⟩) (by assumption) ?_
            rotate_left
            · unfold cop14; intro w hSw; (try dsimp only at hSw); go_simp; try (with_reducible rfl)
            try simp only [cop14, Act.put, List.setIfInBounds_toArray, List.set_cons_zero, List.set_cons_succ]
            refine wpAnyH_take (i := 15) (oi := cop15) (v := ?_) rfl (by as_aux_lemma => kernel_rfl) (by as_aux_lemma => kernel_rfl) (by as_aux_lemma => kernel_rfl) (fun _ _ _ h => h) (Or.inl ⟨by rfl, ?_⟩) (by assumption) ?_
            rotate_left
            · unfold cop15; intro w hSw; (try dsimp only at hSw); go_simp; try (with_reducible rfl)
            try simp only [cop15, Act.put, List.setIfInBounds_toArray, List.set_cons_zero, List.set_cons_succ]
            refine wpAnyH_take (i := 16) (oi := cop16) (v := ?_) rfl (by as_aux_lemma => kernel_rfl) (by as_aux_lemma => kernel_rfl) (by as_aux_lemma => kernel_rfl) (fun _ _ _ h => h) (Or.inl ⟨by rfl, ?_⟩) (by assumption) ?_
            rotate_left
            · unfold cop16; intro w hSw; (try dsimp only at hSw); go_simp; try (with_reducible rfl)
            try simp only [cop16, Act.put, List.setIfInBounds_toArray, List.set_cons_zero, List.set_cons_succ]
            refine wpAnyH_ready (rs := [17]) (by as_aux_lemma => kernel_rfl) (by simp) ?_
            refine (AllReadyH.cons (o := cop17) rfl (fun K hK => ?_) AllReadyH.nil)
            unfold cop17
            go_simp
            (go_at_call 15; (with_reducible refine (HS1.out _).mono ?_); rintro e z2 ⟨rfl, bl2⟩)
            try go_wp2_with fail
            refine hK.out _ _ ?_ (fun hHeld2 => ?_)
            · (refine keept3 BP_14 BS0 t1_18 t2_19 t4_20 ?_; repeat (first | exact Below.refl _ _ | refine below_drw ?_ | refine below_to ?_ (by assumption)))
            clear hK K hHeld
            have hHeld := hHeld2
            clear hHeld2
            try simp only [cop17, Act.put, List.setIfInBounds_toArray, List.set_cons_zero, List.set_cons_succ]
            as_aux_lemma =>
             refine wpAnyH_take (i := 18) (oi := cop18) (v := ?_) rfl (by as_aux_lemma => kernel_rfl) (by as_aux_lemma => kernel_rfl) (by as_aux_lemma => kernel_rfl) (fun _ _ _ h => h) (Or.inl ⟨by rfl, ?_⟩) (by assumption) ?_
             rotate_left
             · unfold cop18; intro w hSw; (try dsimp only at hSw); go_simp; try (with_reducible rfl)
             try simp only [cop18, Act.put, List.setIfInBounds_toArray, List.set_cons_zero, List.set_cons_succ]
             refine wpAnyH_take (i := 19) (oi := cop19) (v := ?_) rfl (by as_aux_lemma => kernel_rfl) (by as_aux_lemma => kernel_rfl) (by as_aux_lemma => kernel_rfl) (fun _ _ _ h => h) (Or.inl ⟨by rfl, ?_⟩) (by assumption) ?_
             rotate_left
             · unfold cop19; intro w hSw; (try dsimp only at hSw); go_simp; try (with_reducible rfl)
             try simp only [cop19, Act.put, List.setIfInBounds_toArray, List.set_cons_zero, List.set_cons_succ]
             refine wpAnyH_take (i := 20) (oi := cop20) (v := ?_) rfl (by as_aux_lemma => kernel_rfl) (by as_aux_lemma => kernel_rfl) (by as_aux_lemma => kernel_rfl) (fun _ _ _ h => h) (Or.inl ⟨by rfl, ?_⟩) (by assumption) ?_
             rotate_left
             · unfold cop20; intro w hSw; (try dsimp only at hSw); go_simp; try (with_reducible rfl)
             try simp only [cop20, Act.put, List.setIfInBounds_toArray, List.set_cons_zero, List.set_cons_succ]
             refine wpAnyH_take (i := 21) (oi := cop21) (v := ?_) rfl (by as_aux_lemma => kernel_rfl) (by as_aux_lemma => kernel_rfl) (by as_aux_lemma => kernel_rfl) (fun _ _ _ h => h) (Or.inl ⟨by rfl, ?_⟩) (by assumption) ?_
             rotate_left
             · unfold cop21; intro w hSw; (try dsimp only at hSw); go_simp; try (with_reducible rfl)
             try simp only [cop21, Act.put, List.setIfInBounds_toArray, List.set_cons_zero, List.set_cons_succ]
             refine wpAnyH_take (i := 22) (oi := cop22) (v := ?_) rfl (by as_aux_lemma => kernel_rfl) (by as_aux_lemma => kernel_rfl) (by as_aux_lemma => kernel_rfl) (fun _ _ _ h => h) (Or.inl ⟨by rfl, ?_⟩) (by assumption) ?_
             rotate_left
             · unfold cop22; intro w hSw; (try dsimp only at hSw); go_simp; try (with_reducible rfl)
             try simp only [cop22, Act.put, List.setIfInBounds_toArray, List.set_cons_zero, List.set_cons_succ]
             refine wpAnyH_take (i := 23) (oi := cop23) (v := ?_) rfl (by as_aux_lemma => kernel_rfl) (by as_aux_lemma => kernel_rfl) (by as_aux_lemma => kernel_rfl) (fun _ _ _ h => h) (Or.inl ⟨by rfl, ?_⟩) (by assumption) ?_
             rotate_left
             · unfold cop23; intro w hSw; (try dsimp only at hSw); go_simp; try (with_reducible rfl)
             try simp only [cop23, Act.put, List.setIfInBounds_toArray, List.set_cons_zero, List.set_cons_succ]
             refine wpAnyH_take (i := 24) (oi := cop24) (v := ?_) rfl (by as_aux_lemma => kernel_rfl) (by as_aux_lemma => kernel_rfl) (by as_aux_lemma => kernel_rfl) (fun _ _ _ h => h) (Or.inl ⟨by rfl, ?_⟩) (by assumption) ?_
             rotate_left
             · unfold cop24; intro w hSw; (try dsimp only at hSw); go_simp; try (with_reducible rfl)
             try simp only [cop24, Act.put, List.setIfInBounds_toArray, List.set_cons_zero, List.set_cons_succ]
             refine wpAnyH_take (i := 25) (oi := cop25) (v := ?_) rfl (by as_aux_lemma => kernel_rfl) (by as_aux_lemma => kernel_rfl) (by as_aux_lemma => kernel_rfl) (fun _ _ _ h => h) (Or.inl ⟨by rfl, ?_⟩) (by assumption) ?_
             rotate_left
             · unfold cop25; intro w hSw; (try dsimp only at hSw); go_simp; try (with_reducible rfl)
             try simp only [cop25, Act.put, List.setIfInBounds_toArray, List.set_cons_zero, List.set_cons_succ]
             refine wpAnyH_take (i := 26) (oi := cop26) (v := ?_) rfl (by as_aux_lemma => kernel_rfl) (by as_aux_lemma => kernel_rfl) (by as_aux_lemma => kernel_rfl) (fun _ _ _ h => h) (Or.inl ⟨by rfl, ?_⟩) (by assumption) ?_
             rotate_left
             · unfold cop26; intro w hSw; (try dsimp only at hSw); go_simp; try (with_reducible rfl)
             try simp only [cop26, Act.put, List.setIfInBounds_toArray, List.set_cons_zero, List.set_cons_succ]
             refine wpAnyH_take (i := 27) (oi := cop27) (v := ?_) rfl (by as_aux_lemma => kernel_rfl) (by as_aux_lemma => kernel_rfl) (by as_aux_lemma => kernel_rfl) (fun _ _ _ h => h) (Or.inl ⟨by rfl, ?_⟩) (by assumption) ?_
             rotate_left
             · unfold cop27; intro w hSw; (try dsimp only at hSw); go_simp; try (with_reducible rfl)
             try simp only [cop27, Act.put, List.setIfInBounds_toArray, List.set_cons_zero, List.set_cons_succ]
             refine wpAnyH_take (i := 28) (oi := cop28) (v := ?_) rfl (by as_aux_lemma => kernel_rfl) (by as_aux_lemma => kernel_rfl) (by as_aux_lemma => kernel_rfl) (fun _ _ _ h => h) (Or.inl ⟨by rfl, ?_⟩) (by assumption) ?_
             rotate_left
             · unfold cop28; intro w hSw; (try dsimp only at hSw); go_simp; try (with_reducible rfl)
             try simp only [cop28, Act.put, List.setIfInBounds_toArray, List.set_cons_zero, List.set_cons_succ]
             refine wpAnyH_take (i := 29) (oi := cop29) (v := ?_) rfl (by as_aux_lemma => kernel_rfl) (by as_aux_lemma => kernel_rfl) (by as_aux_lemma => kernel_rfl) (fun _ _ _ h => h) (Or.inl ⟨by rfl, ?_⟩) (by assumption) ?_
             rotate_left
             · unfold cop29; intro w hSw; (try dsimp only at hSw); go_simp; try (with_reducible rfl)
             try simp only [cop29, Act.put, List.setIfInBounds_toArray, List.set_cons_zero, List.set_cons_succ]
             as_aux_lemma =>
              refine wpAnyH_ready (rs := [30]) (by as_aux_lemma => kernel_rfl) (by simp) ?_
              refine (AllReadyH.cons (o := cop30) rfl (fun K hK => ?_) AllReadyH.nil)
              unfold cop30
              go_simp
              (go_at_call 15; (with_reducible refine (HS2.out _).mono ?_); rintro e z3 ⟨rfl, bl3⟩)
              try go_wp2_with fail
              refine hK.out _ _ ?_ (fun hHeld2 => ?_)
              · (refine keept3 BP_14 BS0 t1_18 t2_19 t4_20 ?_; repeat (first | exact Below.refl _ _ | refine below_drw ?_ | refine below_to ?_ (by assumption)))
              clear hK K hHeld
              have hHeld := hHeld2
              clear hHeld2
              try simp only [cop30, Act.put, List.setIfInBounds_toArray, List.set_cons_zero, List.set_cons_succ]
              as_aux_lemma =>
               refine wpAnyH_take (i := 31) (oi := cop31) (v := ?_) rfl (by as_aux_lemma => kernel_rfl) (by as_aux_lemma => kernel_rfl) (by as_aux_lemma => kernel_rfl) (fun _ _ _ h => h) (Or.inl ⟨by rfl, ?_⟩) (by assumption) ?_
               rotate_left
               · unfold cop31; intro w hSw; (try dsimp only at hSw); go_simp; try (with_reducible rfl)
               try simp only [cop31, Act.put, List.setIfInBounds_toArray, List.set_cons_zero, List.set_cons_succ]
               refine wpAnyH_take (i := 32) (oi := cop32) (v := ?_) rfl (by as_aux_lemma => kernel_rfl) (by as_aux_lemma => kernel_rfl) (by as_aux_lemma => kernel_rfl) (fun _ _ _ h => h) (Or.inl ⟨by rfl, ?_⟩) (by assumption) ?_
               rotate_left
               · unfold cop32; intro w hSw; (try dsimp only at hSw); go_simp; try (with_reducible rfl)
               try simp only [cop32, Act.put, List.setIfInBounds_toArray, List.set_cons_zero, List.set_cons_succ]
               refine wpAnyH_take (i := 33) (oi := cop33) (v := ?_) rfl (by as_aux_lemma => kernel_rfl) (by as_aux_lemma => kernel_rfl) (by as_aux_lemma => kernel_rfl) (fun _ _ _ h => h) (Or.inl ⟨by rfl, ?_⟩) (by assumption) ?_
               rotate_left
               · unfold cop33; intro w hSw; (try dsimp only at hSw); go_simp; try (with_reducible rfl)
               try simp only [cop33, Act.put, List.setIfInBounds_toArray, List.set_cons_zero, List.set_cons_succ]
               refine wpAnyH_take (i := 34) (oi := cop34) (v := ?_) rfl (by as_aux_lemma => kernel_rfl) (by as_aux_lemma => kernel_rfl) (by as_aux_lemma => kernel_rfl) (fun _ _ _ h => h) (Or.inl ⟨by rfl, ?_⟩) (by assumption) ?_
               rotate_left
               · unfold cop34; intro w hSw; (try dsimp only at hSw); go_simp; try (with_reducible rfl)
               try simp only [cop34, Act.put, List.setIfInBounds_toArray, List.set_cons_zero, List.set_cons_succ]
               refine wpAnyH_take (i := 35) (oi := cop35) (v := ?_) rfl (by as_aux_lemma => kernel_rfl) (by as_aux_lemma => kernel_rfl) (by as_aux_lemma => kernel_rfl) (fun _ _ _ h => h) (Or.inl ⟨by rfl, ?_⟩) (by assumption) ?_
               rotate_left
               · unfold cop35; intro w hSw; (try dsimp only at hSw); go_simp; try (with_reducible rfl)
               try simp only [cop35, Act.put, List.setIfInBounds_toArray, List.set_cons_zero, List.set_cons_succ]
               refine wpAnyH_take (i := 36) (oi := cop36) (v := ?_) rfl (by as_aux_lemma => kernel_rfl) (by as_aux_lemma => kernel_rfl) (by as_aux_lemma => kernel_rfl) (fun _ _ _ h => h) (Or.inl ⟨by rfl, ?_⟩) (by assumption) ?_
               rotate_left
               · unfold cop36; intro w hSw; (try dsimp only at hSw); go_simp; try (with_reducible rfl)
               try simp only [cop36, Act.put, List.setIfInBounds_toArray, List.set_cons_zero, List.set_cons_succ]
               refine wpAnyH_take (i := 37) (oi := cop37) (v := undef) rfl (by as_aux_lemma => kernel_rfl) (by as_aux_lemma => kernel_rfl) (by as_aux_lemma => kernel_rfl) (fun _ _ _ h => h) (Or.inr ⟨by rfl, rfl⟩) (by assumption) ?_
               try simp only [cop37, Act.put, List.setIfInBounds_toArray, List.set_cons_zero, List.set_cons_succ]
               refine wpAnyH_take (i := 38) (oi := cop38) (v := undef) rfl (by as_aux_lemma => kernel_rfl) (by as_aux_lemma => kernel_rfl) (by as_aux_lemma => kernel_rfl) (fun _ _ _ h => h) (Or.inr ⟨by rfl, rfl⟩) (by assumption) ?_
               try simp only [cop38, Act.put, List.setIfInBounds_toArray, List.set_cons_zero, List.set_cons_succ]
               refine wpAnyH_take (i := 39) (oi := cop39) (v := undef) rfl (by as_aux_lemma => kernel_rfl) (by as_aux_lemma => kernel_rfl) (by as_aux_lemma => kernel_rfl) (fun _ _ _ h => h) (Or.inr ⟨by rfl, rfl⟩) (by assumption) ?_
               try simp only [cop39, Act.put, List.setIfInBounds_toArray, List.set_cons_zero, List.set_cons_succ]
               refine wpAnyH_take (i := 40) (oi := cop40) (v := undef) rfl (by as_aux_lemma => kernel_rfl) (by as_aux_lemma => kernel_rfl) (by as_aux_lemma => kernel_rfl) (fun _ _ _ h => h) (Or.inr ⟨by rfl, rfl⟩) (by assumption) ?_
               try simp only [cop40, Act.put, List.setIfInBounds_toArray, List.set_cons_zero, List.set_cons_succ]
               refine wpAnyH_take (i := 41) (oi := cop41) (v := undef) rfl (by as_aux_lemma => kernel_rfl) (by as_aux_lemma => kernel_rfl) (by as_aux_lemma => kernel_rfl) (fun _ _ _ h => h) (Or.inr ⟨by rfl, rfl⟩) (by assumption) ?_
               try simp only [cop41, Act.put, List.setIfInBounds_toArray, List.set_cons_zero, List.set_cons_succ]
               refine wpAnyH_take (i := 42) (oi := cop42) (v := undef) rfl (by as_aux_lemma => kernel_rfl) (by as_aux_lemma => kernel_rfl) (by as_aux_lemma => kernel_rfl) (fun _ _ _ h => h) (Or.inr ⟨by rfl, rfl⟩) (by assumption) ?_
               try simp only [cop42, Act.put, List.setIfInBounds_toArray, List.set_cons_zero, List.set_cons_succ]
               refine wpAnyH_take (i := 43) (oi := cop43) (v := undef) rfl (by as_aux_lemma => kernel_rfl) (by as_aux_lemma => kernel_rfl) (by as_aux_lemma => kernel_rfl) (fun _ _ _ h => h) (Or.inr ⟨by rfl, rfl⟩) (by assumption) ?_
               try simp only [cop43, Act.put, List.setIfInBounds_toArray, List.set_cons_zero, List.set_cons_succ]
               refine wpAnyH_take (i := 44) (oi := cop44) (v := undef) rfl (by as_aux_lemma => kernel_rfl) (by as_aux_lemma => kernel_rfl) (by as_aux_lemma => kernel_rfl) (fun _ _ _ h => h) (Or.inr ⟨by rfl, rfl⟩) (by assumption) ?_
               try simp only [cop44, Act.put, List.setIfInBounds_toArray, List.set_cons_zero, List.set_cons_succ]
               refine wpAnyH_take (i := 45) (oi := cop45) (v := undef) rfl (by as_aux_lemma => kernel_rfl) (by as_aux_lemma => kernel_rfl) (by as_aux_lemma => kernel_rfl) (fun _ _ _ h => h) (Or.inr ⟨by rfl, rfl⟩) (by assumption) ?_
               try simp only [cop45, Act.put, List.setIfInBounds_toArray, List.set_cons_zero, List.set_cons_succ]
               refine wpAnyH_take (i := 46) (oi := cop46) (v := undef) rfl (by as_aux_lemma => kernel_rfl) (by as_aux_lemma => kernel_rfl) (by as_aux_lemma => kernel_rfl) (fun _ _ _ h => h) (Or.inr ⟨by rfl, rfl⟩) (by assumption) ?_
               try simp only [cop46, Act.put, List.setIfInBounds_toArray, List.set_cons_zero, List.set_cons_succ]
               refine wpAnyH_take (i := 47) (oi := cop47) (v := undef) rfl (by as_aux_lemma => kernel_rfl) (by as_aux_lemma => kernel_rfl) (by as_aux_lemma => kernel_rfl) (fun _ _ _ h => h) (Or.inr ⟨by rfl, rfl⟩) (by assumption) ?_
               try simp only [cop47, Act.put, List.setIfInBounds_toArray, List.set_cons_zero, List.set_cons_succ]
               refine wpAnyH_take (i := 48) (oi := cop48) (v := undef) rfl (by as_aux_lemma => kernel_rfl) (by as_aux_lemma => kernel_rfl) (by as_aux_lemma => kernel_rfl) (fun _ _ _ h => h) (Or.inr ⟨by rfl, rfl⟩) (by assumption) ?_
               try simp only [cop48, Act.put, List.setIfInBounds_toArray, List.set_cons_zero, List.set_cons_succ]
               refine wpAnyH_take (i := 49) (oi := cop49) (v := undef) rfl (by as_aux_lemma => kernel_rfl) (by as_aux_lemma => kernel_rfl) (by as_aux_lemma => kernel_rfl) (fun _ _ _ h => h) (Or.inr ⟨by rfl, rfl⟩) (by assumption) ?_
               try simp only [cop49, Act.put, List.setIfInBounds_toArray, List.set_cons_zero, List.set_cons_succ]
               refine wpAnyH_take (i := 50) (oi := cop50) (v := ?_) rfl (by as_aux_lemma => kernel_rfl) (by as_aux_lemma => kernel_rfl) (by as_aux_lemma => kernel_rfl) (fun _ _ _ h => h) (Or.inl ⟨by rfl, ?_⟩) (by assumption) ?_
               rotate_left
               · unfold cop50; intro w hSw; (try dsimp only at hSw); go_simp; try (with_reducible rfl)
               try simp only [cop50, Act.put, List.setIfInBounds_toArray, List.set_cons_zero, List.set_cons_succ]
               refine wpAnyH_take (i := 51) (oi := cop51) (v := ?_) rfl (by as_aux_lemma => kernel_rfl) (by as_aux_lemma => kernel_rfl) (by as_aux_lemma => kernel_rfl) (fun _ _ _ h => h) (Or.inl ⟨by rfl, ?_⟩) (by assumption) ?_
               rotate_left
               · unfold cop51; intro w hSw; (try dsimp only at hSw); go_simp; try (with_reducible rfl)
               try simp only [cop51, Act.put, List.setIfInBounds_toArray, List.set_cons_zero, List.set_cons_succ]
               refine wpAnyH_take (i := 52) (oi := cop52) (v := ?_) rfl (by as_aux_lemma => kernel_rfl) (by as_aux_lemma => kernel_rfl) (by as_aux_lemma => kernel_rfl) (fun _ _ _ h => h) (Or.inl ⟨by rfl, ?_⟩) (by assumption) ?_
               rotate_left
               · unfold cop52; intro w hSw; (try dsimp only at hSw); go_simp; try (with_reducible rfl)
               try simp only [cop52, Act.put, List.setIfInBounds_toArray, List.set_cons_zero, List.set_cons_succ]
               refine wpAnyH_take (i := 53) (oi := cop53) (v := ?_) rfl (by as_aux_lemma => kernel_rfl) (by as_aux_lemma => kernel_rfl) (by as_aux_lemma => kernel_rfl) (fun _ _ _ h => h) (Or.inl ⟨by rfl, ?_⟩) (by assumption) ?_
               rotate_left
               · unfold cop53; intro w hSw; (try dsimp only at hSw); go_simp; try (with_reducible rfl)
               try simp only [cop53, Act.put, List.setIfInBounds_toArray, List.set_cons_zero, List.set_cons_succ]
               refine wpAnyH_take (i := 54) (oi := cop54) (v := ?_) rfl (by as_aux_lemma => kernel_rfl) (by as_aux_lemma => kernel_rfl) (by as_aux_lemma => kernel_rfl) (fun _ _ _ h => h) (Or.inl ⟨by rfl, ?_⟩) (by assumption) ?_
               rotate_left
               · unfold cop54; intro w hSw; (try dsimp only at hSw); go_simp; try (with_reducible rfl)
               try simp only [cop54, Act.put, List.setIfInBounds_toArray, List.set_cons_zero, List.set_cons_succ]
               refine wpAnyH_take (i := 55) (oi := cop55) (v := ?_) rfl (by as_aux_lemma => kernel_rfl) (by as_aux_lemma => kernel_rfl) (by as_aux_lemma => kernel_rfl) (fun _ _ _ h => h) (Or.inl ⟨by rfl, ?_⟩) (by assumption) ?_
               rotate_left
               · unfold cop55; intro w hSw; (try dsimp only at hSw); go_simp; try (with_reducible rfl)
               try simp only [cop55, Act.put, List.setIfInBounds_toArray, List.set_cons_zero, List.set_cons_succ]
               as_aux_lemma =>
                refine wpAnyH_take (i := 56) (oi := cop56) (v := ?_) rfl (by as_aux_lemma => kernel_rfl) (by as_aux_lemma => kernel_rfl) (by as_aux_lemma => kernel_rfl) (fun _ _ _ h => h) (Or.inl ⟨by rfl, ?_⟩) (by assumption) ?_
                rotate_left
                · unfold cop56; intro w hSw; (try dsimp only at hSw); go_simp; try (with_reducible rfl)
                try simp only [cop56, Act.put, List.setIfInBounds_toArray, List.set_cons_zero, List.set_cons_succ]
                refine wpAnyH_take (i := 57) (oi := cop57) (v := ?_) rfl (by as_aux_lemma => kernel_rfl) (by as_aux_lemma => kernel_rfl) (by as_aux_lemma => kernel_rfl) (fun _ _ _ h => h) (Or.inl ⟨by rfl, ?_⟩) (by assumption) ?_
                rotate_left
                · unfold cop57; intro w hSw; (try dsimp only at hSw); go_simp; try (with_reducible rfl)
                try simp only [cop57, Act.put, List.setIfInBounds_toArray, List.set_cons_zero, List.set_cons_succ]
                refine wpAnyH_take (i := 58) (oi := cop58) (v := ?_) rfl (by as_aux_lemma => kernel_rfl) (by as_aux_lemma => kernel_rfl) (by as_aux_lemma => kernel_rfl) (fun _ _ _ h => h) (Or.inl ⟨by rfl, ?_⟩) (by assumption) ?_
                rotate_left
                · unfold cop58; intro w hSw; (try dsimp only at hSw); go_simp; try (with_reducible rfl)
                try simp only [cop58, Act.put, List.setIfInBounds_toArray, List.set_cons_zero, List.set_cons_succ]
                refine wpAnyH_take (i := 59) (oi := cop59) (v := ?_) rfl (by as_aux_lemma => kernel_rfl) (by as_aux_lemma => kernel_rfl) (by as_aux_lemma => kernel_rfl) (fun _ _ _ h => h) (Or.inl ⟨by rfl, ?_⟩) (by assumption) ?_
                rotate_left
                · unfold cop59; intro w hSw; (try dsimp only at hSw); go_simp; try (with_reducible rfl)
                try simp only [cop59, Act.put, List.setIfInBounds_toArray, List.set_cons_zero, List.set_cons_succ]
                refine wpAnyH_take (i := 60) (oi := cop60) (v := ?_) rfl (by as_aux_lemma => kernel_rfl) (by as_aux_lemma => kernel_rfl) (by as_aux_lemma => kernel_rfl) (fun _ _ _ h => h) (Or.inl ⟨by rfl, ?_⟩) (by assumption) ?_
                rotate_left
                · unfold cop60; intro w hSw; (try dsimp only at hSw); go_simp; try (with_reducible rfl)
                try simp only [cop60, Act.put, List.setIfInBounds_toArray, List.set_cons_zero, List.set_cons_succ]
                refine wpAnyH_take (i := 61) (oi := cop61) (v := ?_) rfl (by as_aux_lemma => kernel_rfl) (by as_aux_lemma => kernel_rfl) (by as_aux_lemma => kernel_rfl) (fun _ _ _ h => h) (Or.inl ⟨by rfl, ?_⟩) (by assumption) ?_
                rotate_left
                · unfold cop61; intro w hSw; (try dsimp only at hSw); go_simp; exact HEQ.out w
                try simp only [cop61, Act.put, List.setIfInBounds_toArray, List.set_cons_zero, List.set_cons_succ]
                refine wpAnyH_take (i := 62) (oi := cop62) (v := ?_) rfl (by as_aux_lemma => kernel_rfl) (by as_aux_lemma => kernel_rfl) (by as_aux_lemma => kernel_rfl) (fun _ _ _ h => h) (Or.inl ⟨by rfl, ?_⟩) (by assumption) ?_
                rotate_left
                · unfold cop62; intro w hSw; (try dsimp only at hSw); go_simp; try (with_reducible rfl)
                try simp only [cop62, Act.put, List.setIfInBounds_toArray, List.set_cons_zero, List.set_cons_succ]
                refine wpAnyH_done (by kernel_rfl) ?_ _
                go_wp2_with fail
                go_meet
                refine ⟨rfl, ?_⟩
                repeat (first | exact Below.refl _ _ | refine below_drw ?_ | refine below_to ?_ (by assumption))
        · have hgt : decide (0 < i) = true := decide_eq_true (by omega)
          have hgt2 : decide ((0 : Int) < (i : Int)) = true := decide_eq_true (by omega)
          have hbe := HBE.out (by omega)
          have hkl : i - 1 < ps.length := by omega
          obtain ⟨_, _, e1, hc0⟩ := Hps_13.out (i - 1) _ (List.getElem?_eq_getElem hkl)
          cases e1
          rw [← atI_get hkl] at hc0
          have ok0 := Lib.hid (rok_all HRps.out _ (atI_mem hkl))
          have hm0 : (i : Int) - 1 = ((i - 1 : Nat) : Int) := by omega
          have hw0 : IntKind.i64.wrap ((i : Int) - 1) = ((i - 1 : Nat) : Int) := by rw [IntWalk.i64_in _ (by omega)]; exact hm0
          have hk1 : i - 1 < p := by omega
          generalize atI ps (i - 1) = e0 at *
          obtain ⟨a0, b0, c0⟩ := e0
          have HBF := Lib.hid (fun V => bef_call ok0.out ok1.out hbe V)
          generalize i - 1 = k at *
          have hwk : IntKind.i64.wrap (k : Int) = (k : Int) := IntWalk.i64_in _ (by omega)
          simp only at HBF hc0
          clear hbe hkl ok0 hi0
          refine wp_region_held_drew (S := (fun w' => w'.cell? ⟨bp, 0, none⟩ = some (.slice (some ⟨g, o, none⟩) p cp) ∧ w'.cell? ⟨bs, 0, none⟩ = some (.int .i64 sx) ∧ w'.cell? ⟨bs, 1, none⟩ = some (.int .i64 sy) ∧ w'.cell? ⟨bs, 2, none⟩ = some (.int .i64 sd) ∧ w'.cell? ⟨g, o + i * 3, none⟩ = some (.int .i64 a1) ∧ w'.cell? ⟨g, o + i * 3 + 1, none⟩ = some (.int .i64 b1) ∧ w'.cell? ⟨g, o + i * 3 + 2, none⟩ = some (.int .i64 c1) ∧ w'.cell? ⟨g, o + j * 3, none⟩ = some (.int .i64 a2) ∧ w'.cell? ⟨g, o + j * 3 + 1, none⟩ = some (.int .i64 b2) ∧ w'.cell? ⟨g, o + j * 3 + 2, none⟩ = some (.int .i64 c2) ∧ w'.cell? ⟨g', o' + j * 3, none⟩ = some (.int .i64 tx) ∧ w'.cell? ⟨g', o' + j * 3 + 1, none⟩ = some (.int .i64 ty) ∧ w'.cell? ⟨g', o' + j * 3 + 2, none⟩ = some (.int .i64 td) ∧ w'.cell? ⟨g, o + k * 3, none⟩ = some (.int .i64 a0) ∧ w'.cell? ⟨g, o + k * 3 + 1, none⟩ = some (.int .i64 b0) ∧ w'.cell? ⟨g, o + k * 3 + 2, none⟩ = some (.int .i64 c0))) (by kernel_rfl) ?_ (fun hHeld => ?_)
          · (refine keept4 BP_14 BS0 t1_18 t2_19 t4_20 hc0 ?_; repeat (first | exact Below.refl _ _ | refine below_drw ?_ | refine below_to ?_ (by assumption)))
          refine wpAnyH_take (i := 0) (oi := cop0) (v := ?_) rfl (by as_aux_lemma => kernel_rfl) (by as_aux_lemma => kernel_rfl) (by as_aux_lemma => kernel_rfl) (fun _ _ _ h => h) (Or.inl ⟨by rfl, ?_⟩) (by assumption) ?_
          rotate_left
          · unfold cop0; intro w hSw; (try dsimp only at hSw); go_simp; try (with_reducible rfl)
          try simp only [cop0, Act.put, List.setIfInBounds_toArray, List.set_cons_zero, List.set_cons_succ]
          refine wpAnyH_take (i := 1) (oi := cop1) (v := ?_) rfl (by as_aux_lemma => kernel_rfl) (by as_aux_lemma => kernel_rfl) (by as_aux_lemma => kernel_rfl) (fun _ _ _ h => h) (Or.inl ⟨by rfl, ?_⟩) (by assumption) ?_
          rotate_left
          · unfold cop1; intro w hSw; (try dsimp only at hSw); go_simp; try (with_reducible rfl)
          try simp only [cop1, Act.put, List.setIfInBounds_toArray, List.set_cons_zero, List.set_cons_succ]
          refine wpAnyH_ready (rs := [2]) (by as_aux_lemma => kernel_rfl) (by simp) ?_
          refine (AllReadyH.cons (o := cop2) rfl (fun K hK => ?_) AllReadyH.nil)
          unfold cop2
          go_simp
          (go_at_call 13; (with_reducible refine (HHS.out _ ?_).mono ?_); (focus ((refine Hps_13.out.below ?_); repeat (first | exact Below.refl _ _ | refine below_drw ?_ | refine below_to ?_ (by assumption)))); rintro e z0 ⟨rfl, bl0⟩)
          try go_wp2_with fail
          refine hK.out _ _ ?_ (fun hHeld2 => ?_)
          · (refine keept4 BP_14 BS0 t1_18 t2_19 t4_20 hc0 ?_; repeat (first | exact Below.refl _ _ | refine below_drw ?_ | refine below_to ?_ (by assumption)))
          clear hK K hHeld
          have hHeld := hHeld2
          clear hHeld2
          try simp only [cop2, Act.put, List.setIfInBounds_toArray, List.set_cons_zero, List.set_cons_succ]
          as_aux_lemma =>
           refine wpAnyH_take (i := 3) (oi := cop3) (v := ?_) rfl (by as_aux_lemma => kernel_rfl) (by as_aux_lemma => kernel_rfl) (by as_aux_lemma => kernel_rfl) (fun _ _ _ h => h) (Or.inl ⟨by rfl, ?_⟩) (by assumption) ?_
           rotate_left
           · unfold cop3; intro w hSw; (try dsimp only at hSw); go_simp; try (with_reducible rfl)
           try simp only [cop3, Act.put, List.setIfInBounds_toArray, List.set_cons_zero, List.set_cons_succ]
           refine wpAnyH_take (i := 4) (oi := cop4) (v := ?_) rfl (by as_aux_lemma => kernel_rfl) (by as_aux_lemma => kernel_rfl) (by as_aux_lemma => kernel_rfl) (fun _ _ _ h => h) (Or.inl ⟨by rfl, ?_⟩) (by assumption) ?_
           rotate_left
           · unfold cop4; intro w hSw; (try dsimp only at hSw); go_simp; try (with_reducible rfl)
           try simp only [cop4, Act.put, List.setIfInBounds_toArray, List.set_cons_zero, List.set_cons_succ]
           refine wpAnyH_take (i := 5) (oi := cop5) (v := ?_) rfl (by as_aux_lemma => kernel_rfl) (by as_aux_lemma => kernel_rfl) (by as_aux_lemma => kernel_rfl) (fun _ _ _ h => h) (Or.inl ⟨by rfl, ?_⟩) (by assumption) ?_
           rotate_left
           · unfold cop5; intro w hSw; (try dsimp only at hSw); go_simp; try (with_reducible rfl)
           try simp only [cop5, Act.put, List.setIfInBounds_toArray, List.set_cons_zero, List.set_cons_succ]
           refine wpAnyH_take (i := 6) (oi := cop6) (v := ?_) rfl (by as_aux_lemma => kernel_rfl) (by as_aux_lemma => kernel_rfl) (by as_aux_lemma => kernel_rfl) (fun _ _ _ h => h) (Or.inl ⟨by rfl, ?_⟩) (by assumption) ?_
           rotate_left
           · unfold cop6; intro w hSw; (try dsimp only at hSw); go_simp; try (with_reducible rfl)
           try simp only [cop6, Act.put, List.setIfInBounds_toArray, List.set_cons_zero, List.set_cons_succ]
           refine wpAnyH_ready (rs := [7]) (by as_aux_lemma => kernel_rfl) (by simp) ?_
           refine (AllReadyH.cons (o := cop7) rfl (fun K hK => ?_) AllReadyH.nil)
           unfold cop7
           go_simp
           (go_at_call 14; (with_reducible refine (HIC.out _ ?_).mono ?_); (focus ((refine Hps_13.out.below ?_); repeat (first | exact Below.refl _ _ | refine below_drw ?_ | refine below_to ?_ (by assumption)))); rintro e z1 ⟨rfl, bl1⟩)
           try go_wp2_with fail
           refine hK.out _ _ ?_ (fun hHeld2 => ?_)
           · (refine keept4 BP_14 BS0 t1_18 t2_19 t4_20 hc0 ?_; repeat (first | exact Below.refl _ _ | refine below_drw ?_ | refine below_to ?_ (by assumption)))
           clear hK K hHeld
           have hHeld := hHeld2
           clear hHeld2
           try simp only [cop7, Act.put, List.setIfInBounds_toArray, List.set_cons_zero, List.set_cons_succ]
           as_aux_lemma =>
            refine wpAnyH_take (i := 8) (oi := cop8) (v := ?_) rfl (by as_aux_lemma => kernel_rfl) (by as_aux_lemma => kernel_rfl) (by as_aux_lemma => kernel_rfl) (fun _ _ _ h => h) (Or.inl ⟨by rfl, ?_⟩) (by assumption) ?_
            rotate_left
            · unfold cop8; intro w hSw; (try dsimp only at hSw); go_simp; try (with_reducible rfl)
            try simp only [cop8, Act.put, List.setIfInBounds_toArray, List.set_cons_zero, List.set_cons_succ]
            refine wpAnyH_take (i := 9) (oi := cop9) (v := ?_) rfl (by as_aux_lemma => kernel_rfl) (by as_aux_lemma => kernel_rfl) (by as_aux_lemma => kernel_rfl) (fun _ _ _ h => h) (Or.inl ⟨by rfl, ?_⟩) (by assumption) ?_
            rotate_left
            · unfold cop9; intro w hSw; (try dsimp only at hSw); go_simp; try (with_reducible rfl)
            try simp only [cop9, Act.put, List.setIfInBounds_toArray, List.set_cons_zero, List.set_cons_succ]
            refine wpAnyH_take (i := 10) (oi := cop10) (v := ?_) rfl (by as_aux_lemma => kernel_rfl) (by as_aux_lemma => kernel_rfl) (by as_aux_lemma => kernel_rfl) (fun _ _ _ h => h) (Or.inl ⟨by rfl, ?_⟩) (by assumption) ?_
            rotate_left
            · unfold cop10; intro w hSw; (try dsimp only at hSw); go_simp; try (with_reducible rfl)
            try simp only [cop10, Act.put, List.setIfInBounds_toArray, List.set_cons_zero, List.set_cons_succ]
            refine wpAnyH_take (i := 11) (oi := cop11) (v := ?_) rfl (by as_aux_lemma => kernel_rfl) (by as_aux_lemma => kernel_rfl) (by as_aux_lemma => kernel_rfl) (fun _ _ _ h => h) (Or.inl ⟨by rfl, ?_⟩) (by assumption) ?_
            rotate_left
            · unfold cop11; intro w hSw; (try dsimp only at hSw); go_simp; try (with_reducible rfl)
            try simp only [cop11, Act.put, List.setIfInBounds_toArray, List.set_cons_zero, List.set_cons_succ]
            refine wpAnyH_take (i := 12) (oi := cop12) (v := ?_) rfl (by as_aux_lemma => kernel_rfl) (by as_aux_lemma => kernel_rfl) (by as_aux_lemma => kernel_rfl) (fun _ _ _ h => h) (Or.inl ⟨by rfl, ?_⟩) (by assumption) ?_
            rotate_left
            · unfold cop12; intro w hSw; (try dsimp only at hSw); go_simp; try (with_reducible rfl)
            try simp only [cop12, Act.put, List.setIfInBounds_toArray, List.set_cons_zero, List.set_cons_succ]
            refine wpAnyH_take (i := 13) (oi := cop13) (v := ?_) rfl (by as_aux_lemma => kernel_rfl) (by as_aux_lemma => kernel_rfl) (by as_aux_lemma => kernel_rfl) (fun _ _ _ h => h) (Or.inl ⟨by rfl, ?_⟩) (by assumption) ?_
            rotate_left
            · unfold cop13; intro w hSw; (try dsimp only at hSw); go_simp; try (with_reducible rfl)
            try simp only [cop13, Act.put, List.setIfInBounds_toArray, List.set_cons_zero, List.set_cons_succ]
            refine wpAnyH_take (i := 14) (oi := cop14) (v := ?_) rfl (by as_aux_lemma => kernel_rfl) (by as_aux_lemma => kernel_rfl) (by as_aux_lemma => kernel_rfl) (fun _ _ _ h => h) (Or.inl ⟨by rfl, ?_⟩) (by assumption) ?_
            rotate_left
            · unfold cop14; intro w hSw; (try dsimp only at hSw); go_simp; try (with_reducible rfl)
            try simp only [cop14, Act.put, List.setIfInBounds_toArray, List.set_cons_zero, List.set_cons_succ]
            refine wpAnyH_take (i := 15) (oi := cop15) (v := ?_) rfl (by as_aux_lemma => kernel_rfl) (by as_aux_lemma => kernel_rfl) (by as_aux_lemma => kernel_rfl) (fun _ _ _ h => h) (Or.inl ⟨by rfl, ?_⟩) (by assumption) ?_
            rotate_left
            · unfold cop15; intro w hSw; (try dsimp only at hSw); go_simp; try (with_reducible rfl)
            try simp only [cop15, Act.put, List.setIfInBounds_toArray, List.set_cons_zero, List.set_cons_succ]
            refine wpAnyH_take (i := 16) (oi := cop16) (v := ?_) rfl (by as_aux_lemma => kernel_rfl) (by as_aux_lemma => kernel_rfl) (by as_aux_lemma => kernel_rfl) (fun _ _ _ h => h) (Or.inl ⟨by rfl, ?_⟩) (by assumption) ?_
            rotate_left
            · unfold cop16; intro w hSw; (try dsimp only at hSw); go_simp; try (with_reducible rfl)
            try simp only [cop16, Act.put, List.setIfInBounds_toArray, List.set_cons_zero, List.set_cons_succ]
            refine wpAnyH_ready (rs := [17]) (by as_aux_lemma => kernel_rfl) (by simp) ?_
            refine (AllReadyH.cons (o := cop17) rfl (fun K hK => ?_) AllReadyH.nil)
            unfold cop17
            go_simp
            (go_at_call 15; (with_reducible refine (HS1.out _).mono ?_); rintro e z2 ⟨rfl, bl2⟩)
            try go_wp2_with fail
            refine hK.out _ _ ?_ (fun hHeld2 => ?_)
            · (refine keept4 BP_14 BS0 t1_18 t2_19 t4_20 hc0 ?_; repeat (first | exact Below.refl _ _ | refine below_drw ?_ | refine below_to ?_ (by assumption)))
            clear hK K hHeld
            have hHeld := hHeld2
            clear hHeld2
            try simp only [cop17, Act.put, List.setIfInBounds_toArray, List.set_cons_zero, List.set_cons_succ]
            as_aux_lemma =>
             refine wpAnyH_take (i := 18) (oi := cop18) (v := ?_) rfl (by as_aux_lemma => kernel_rfl) (by as_aux_lemma => kernel_rfl) (by as_aux_lemma => kernel_rfl) (fun _ _ _ h => h) (Or.inl ⟨by rfl, ?_⟩) (by assumption) ?_
             rotate_left
             · unfold cop18; intro w hSw; (try dsimp only at hSw); go_simp; try (with_reducible rfl)
             try simp only [cop18, Act.put, List.setIfInBounds_toArray, List.set_cons_zero, List.set_cons_succ]
             refine wpAnyH_take (i := 19) (oi := cop19) (v := ?_) rfl (by as_aux_lemma => kernel_rfl) (by as_aux_lemma => kernel_rfl) (by as_aux_lemma => kernel_rfl) (fun _ _ _ h => h) (Or.inl ⟨by rfl, ?_⟩) (by assumption) ?_
             rotate_left
             · unfold cop19; intro w hSw; (try dsimp only at hSw); go_simp; try (with_reducible rfl)
             try simp only [cop19, Act.put, List.setIfInBounds_toArray, List.set_cons_zero, List.set_cons_succ]
             refine wpAnyH_take (i := 20) (oi := cop20) (v := ?_) rfl (by as_aux_lemma => kernel_rfl) (by as_aux_lemma => kernel_rfl) (by as_aux_lemma => kernel_rfl) (fun _ _ _ h => h) (Or.inl ⟨by rfl, ?_⟩) (by assumption) ?_
             rotate_left
             · unfold cop20; intro w hSw; (try dsimp only at hSw); go_simp; try (with_reducible rfl)
             try simp only [cop20, Act.put, List.setIfInBounds_toArray, List.set_cons_zero, List.set_cons_succ]
             refine wpAnyH_take (i := 21) (oi := cop21) (v := ?_) rfl (by as_aux_lemma => kernel_rfl) (by as_aux_lemma => kernel_rfl) (by as_aux_lemma => kernel_rfl) (fun _ _ _ h => h) (Or.inl ⟨by rfl, ?_⟩) (by assumption) ?_
             rotate_left
             · unfold cop21; intro w hSw; (try dsimp only at hSw); go_simp; try (with_reducible rfl)
             try simp only [cop21, Act.put, List.setIfInBounds_toArray, List.set_cons_zero, List.set_cons_succ]
             refine wpAnyH_take (i := 22) (oi := cop22) (v := ?_) rfl (by as_aux_lemma => kernel_rfl) (by as_aux_lemma => kernel_rfl) (by as_aux_lemma => kernel_rfl) (fun _ _ _ h => h) (Or.inl ⟨by rfl, ?_⟩) (by assumption) ?_
             rotate_left
             · unfold cop22; intro w hSw; (try dsimp only at hSw); go_simp; try (with_reducible rfl)
             try simp only [cop22, Act.put, List.setIfInBounds_toArray, List.set_cons_zero, List.set_cons_succ]
             refine wpAnyH_take (i := 23) (oi := cop23) (v := ?_) rfl (by as_aux_lemma => kernel_rfl) (by as_aux_lemma => kernel_rfl) (by as_aux_lemma => kernel_rfl) (fun _ _ _ h => h) (Or.inl ⟨by rfl, ?_⟩) (by assumption) ?_
             rotate_left
             · unfold cop23; intro w hSw; (try dsimp only at hSw); go_simp; try (with_reducible rfl)
             try simp only [cop23, Act.put, List.setIfInBounds_toArray, List.set_cons_zero, List.set_cons_succ]
             refine wpAnyH_take (i := 24) (oi := cop24) (v := ?_) rfl (by as_aux_lemma => kernel_rfl) (by as_aux_lemma => kernel_rfl) (by as_aux_lemma => kernel_rfl) (fun _ _ _ h => h) (Or.inl ⟨by rfl, ?_⟩) (by assumption) ?_
             rotate_left
             · unfold cop24; intro w hSw; (try dsimp only at hSw); go_simp; try (with_reducible rfl)
             try simp only [cop24, Act.put, List.setIfInBounds_toArray, List.set_cons_zero, List.set_cons_succ]
             refine wpAnyH_take (i := 25) (oi := cop25) (v := ?_) rfl (by as_aux_lemma => kernel_rfl) (by as_aux_lemma => kernel_rfl) (by as_aux_lemma => kernel_rfl) (fun _ _ _ h => h) (Or.inl ⟨by rfl, ?_⟩) (by assumption) ?_
             rotate_left
             · unfold cop25; intro w hSw; (try dsimp only at hSw); go_simp; try (with_reducible rfl)
             try simp only [cop25, Act.put, List.setIfInBounds_toArray, List.set_cons_zero, List.set_cons_succ]
             refine wpAnyH_take (i := 26) (oi := cop26) (v := ?_) rfl (by as_aux_lemma => kernel_rfl) (by as_aux_lemma => kernel_rfl) (by as_aux_lemma => kernel_rfl) (fun _ _ _ h => h) (Or.inl ⟨by rfl, ?_⟩) (by assumption) ?_
             rotate_left
             · unfold cop26; intro w hSw; (try dsimp only at hSw); go_simp; try (with_reducible rfl)
             try simp only [cop26, Act.put, List.setIfInBounds_toArray, List.set_cons_zero, List.set_cons_succ]
             refine wpAnyH_take (i := 27) (oi := cop27) (v := ?_) rfl (by as_aux_lemma => kernel_rfl) (by as_aux_lemma => kernel_rfl) (by as_aux_lemma => kernel_rfl) (fun _ _ _ h => h) (Or.inl ⟨by rfl, ?_⟩) (by assumption) ?_
             rotate_left
             · unfold cop27; intro w hSw; (try dsimp only at hSw); go_simp; try (with_reducible rfl)
             try simp only [cop27, Act.put, List.setIfInBounds_toArray, List.set_cons_zero, List.set_cons_succ]
             refine wpAnyH_take (i := 28) (oi := cop28) (v := ?_) rfl (by as_aux_lemma => kernel_rfl) (by as_aux_lemma => kernel_rfl) (by as_aux_lemma => kernel_rfl) (fun _ _ _ h => h) (Or.inl ⟨by rfl, ?_⟩) (by assumption) ?_
             rotate_left
             · unfold cop28; intro w hSw; (try dsimp only at hSw); go_simp; try (with_reducible rfl)
             try simp only [cop28, Act.put, List.setIfInBounds_toArray, List.set_cons_zero, List.set_cons_succ]
             refine wpAnyH_take (i := 29) (oi := cop29) (v := ?_) rfl (by as_aux_lemma => kernel_rfl) (by as_aux_lemma => kernel_rfl) (by as_aux_lemma => kernel_rfl) (fun _ _ _ h => h) (Or.inl ⟨by rfl, ?_⟩) (by assumption) ?_
             rotate_left
             · unfold cop29; intro w hSw; (try dsimp only at hSw); go_simp; try (with_reducible rfl)
             try simp only [cop29, Act.put, List.setIfInBounds_toArray, List.set_cons_zero, List.set_cons_succ]
             as_aux_lemma =>
              refine wpAnyH_ready (rs := [30]) (by as_aux_lemma => kernel_rfl) (by simp) ?_
              refine (AllReadyH.cons (o := cop30) rfl (fun K hK => ?_) AllReadyH.nil)
              unfold cop30
              go_simp
              (go_at_call 15; (with_reducible refine (HS2.out _).mono ?_); rintro e z3 ⟨rfl, bl3⟩)
              try go_wp2_with fail
              refine hK.out _ _ ?_ (fun hHeld2 => ?_)
              · (refine keept4 BP_14 BS0 t1_18 t2_19 t4_20 hc0 ?_; repeat (first | exact Below.refl _ _ | refine below_drw ?_ | refine below_to ?_ (by assumption)))
              clear hK K hHeld
              have hHeld := hHeld2
              clear hHeld2
              try simp only [cop30, Act.put, List.setIfInBounds_toArray, List.set_cons_zero, List.set_cons_succ]
              as_aux_lemma =>
               refine wpAnyH_take (i := 31) (oi := cop31) (v := ?_) rfl (by as_aux_lemma => kernel_rfl) (by as_aux_lemma => kernel_rfl) (by as_aux_lemma => kernel_rfl) (fun _ _ _ h => h) (Or.inl ⟨by rfl, ?_⟩) (by assumption) ?_
               rotate_left
               · unfold cop31; intro w hSw; (try dsimp only at hSw); go_simp; try (with_reducible rfl)
               try simp only [cop31, Act.put, List.setIfInBounds_toArray, List.set_cons_zero, List.set_cons_succ]
               refine wpAnyH_take (i := 32) (oi := cop32) (v := ?_) rfl (by as_aux_lemma => kernel_rfl) (by as_aux_lemma => kernel_rfl) (by as_aux_lemma => kernel_rfl) (fun _ _ _ h => h) (Or.inl ⟨by rfl, ?_⟩) (by assumption) ?_
               rotate_left
               · unfold cop32; intro w hSw; (try dsimp only at hSw); go_simp; try (with_reducible rfl)
               try simp only [cop32, Act.put, List.setIfInBounds_toArray, List.set_cons_zero, List.set_cons_succ]
               refine wpAnyH_take (i := 33) (oi := cop33) (v := ?_) rfl (by as_aux_lemma => kernel_rfl) (by as_aux_lemma => kernel_rfl) (by as_aux_lemma => kernel_rfl) (fun _ _ _ h => h) (Or.inl ⟨by rfl, ?_⟩) (by assumption) ?_
               rotate_left
               · unfold cop33; intro w hSw; (try dsimp only at hSw); go_simp; try (with_reducible rfl)
               try simp only [cop33, Act.put, List.setIfInBounds_toArray, List.set_cons_zero, List.set_cons_succ]
               refine wpAnyH_take (i := 34) (oi := cop34) (v := ?_) rfl (by as_aux_lemma => kernel_rfl) (by as_aux_lemma => kernel_rfl) (by as_aux_lemma => kernel_rfl) (fun _ _ _ h => h) (Or.inl ⟨by rfl, ?_⟩) (by assumption) ?_
               rotate_left
               · unfold cop34; intro w hSw; (try dsimp only at hSw); go_simp; try (with_reducible rfl)
               try simp only [cop34, Act.put, List.setIfInBounds_toArray, List.set_cons_zero, List.set_cons_succ]
               refine wpAnyH_take (i := 35) (oi := cop35) (v := ?_) rfl (by as_aux_lemma => kernel_rfl) (by as_aux_lemma => kernel_rfl) (by as_aux_lemma => kernel_rfl) (fun _ _ _ h => h) (Or.inl ⟨by rfl, ?_⟩) (by assumption) ?_
               rotate_left
               · unfold cop35; intro w hSw; (try dsimp only at hSw); go_simp; try (with_reducible rfl)
               try simp only [cop35, Act.put, List.setIfInBounds_toArray, List.set_cons_zero, List.set_cons_succ]
               refine wpAnyH_take (i := 36) (oi := cop36) (v := ?_) rfl (by as_aux_lemma => kernel_rfl) (by as_aux_lemma => kernel_rfl) (by as_aux_lemma => kernel_rfl) (fun _ _ _ h => h) (Or.inl ⟨by rfl, ?_⟩) (by assumption) ?_
               rotate_left
               · unfold cop36; intro w hSw; (try dsimp only at hSw); go_simp; try (with_reducible rfl)
               try simp only [cop36, Act.put, List.setIfInBounds_toArray, List.set_cons_zero, List.set_cons_succ]
               refine wpAnyH_take (i := 37) (oi := cop37) (v := ?_) rfl (by as_aux_lemma => kernel_rfl) (by as_aux_lemma => kernel_rfl) (by as_aux_lemma => kernel_rfl) (fun _ _ _ h => h) (Or.inl ⟨by rfl, ?_⟩) (by assumption) ?_
               rotate_left
               · unfold cop37; intro w hSw; (try dsimp only at hSw); go_simp; try (with_reducible rfl)
               try simp only [cop37, Act.put, List.setIfInBounds_toArray, List.set_cons_zero, List.set_cons_succ]
               refine wpAnyH_take (i := 38) (oi := cop38) (v := ?_) rfl (by as_aux_lemma => kernel_rfl) (by as_aux_lemma => kernel_rfl) (by as_aux_lemma => kernel_rfl) (fun _ _ _ h => h) (Or.inl ⟨by rfl, ?_⟩) (by assumption) ?_
               rotate_left
               · unfold cop38; intro w hSw; (try dsimp only at hSw); go_simp; try (with_reducible rfl)
               try simp only [cop38, Act.put, List.setIfInBounds_toArray, List.set_cons_zero, List.set_cons_succ]
               refine wpAnyH_take (i := 39) (oi := cop39) (v := ?_) rfl (by as_aux_lemma => kernel_rfl) (by as_aux_lemma => kernel_rfl) (by as_aux_lemma => kernel_rfl) (fun _ _ _ h => h) (Or.inl ⟨by rfl, ?_⟩) (by assumption) ?_
               rotate_left
               · unfold cop39; intro w hSw; (try dsimp only at hSw); go_simp; try (with_reducible rfl)
               try simp only [cop39, Act.put, List.setIfInBounds_toArray, List.set_cons_zero, List.set_cons_succ]
               refine wpAnyH_take (i := 40) (oi := cop40) (v := ?_) rfl (by as_aux_lemma => kernel_rfl) (by as_aux_lemma => kernel_rfl) (by as_aux_lemma => kernel_rfl) (fun _ _ _ h => h) (Or.inl ⟨by rfl, ?_⟩) (by assumption) ?_
               rotate_left
               · unfold cop40; intro w hSw; (try dsimp only at hSw); go_simp; try (with_reducible rfl)
               try simp only [cop40, Act.put, List.setIfInBounds_toArray, List.set_cons_zero, List.set_cons_succ]
               refine wpAnyH_take (i := 41) (oi := cop41) (v := ?_) rfl (by as_aux_lemma => kernel_rfl) (by as_aux_lemma => kernel_rfl) (by as_aux_lemma => kernel_rfl) (fun _ _ _ h => h) (Or.inl ⟨by rfl, ?_⟩) (by assumption) ?_
               rotate_left
               · unfold cop41; intro w hSw; (try dsimp only at hSw); go_simp; try (with_reducible rfl)
               try simp only [cop41, Act.put, List.setIfInBounds_toArray, List.set_cons_zero, List.set_cons_succ]
               refine wpAnyH_take (i := 42) (oi := cop42) (v := ?_) rfl (by as_aux_lemma => kernel_rfl) (by as_aux_lemma => kernel_rfl) (by as_aux_lemma => kernel_rfl) (fun _ _ _ h => h) (Or.inl ⟨by rfl, ?_⟩) (by assumption) ?_
               rotate_left
               · unfold cop42; intro w hSw; (try dsimp only at hSw); go_simp; try (with_reducible rfl)
               try simp only [cop42, Act.put, List.setIfInBounds_toArray, List.set_cons_zero, List.set_cons_succ]
               as_aux_lemma =>
                refine wpAnyH_take (i := 43) (oi := cop43) (v := ?_) rfl (by as_aux_lemma => kernel_rfl) (by as_aux_lemma => kernel_rfl) (by as_aux_lemma => kernel_rfl) (fun _ _ _ h => h) (Or.inl ⟨by rfl, ?_⟩) (by assumption) ?_
                rotate_left
                · unfold cop43; intro w hSw; (try dsimp only at hSw); go_simp; try (with_reducible rfl)
                try simp only [cop43, Act.put, List.setIfInBounds_toArray, List.set_cons_zero, List.set_cons_succ]
                refine wpAnyH_take (i := 44) (oi := cop44) (v := ?_) rfl (by as_aux_lemma => kernel_rfl) (by as_aux_lemma => kernel_rfl) (by as_aux_lemma => kernel_rfl) (fun _ _ _ h => h) (Or.inl ⟨by rfl, ?_⟩) (by assumption) ?_
                rotate_left
                · unfold cop44; intro w hSw; (try dsimp only at hSw); go_simp; try (with_reducible rfl)
                try simp only [cop44, Act.put, List.setIfInBounds_toArray, List.set_cons_zero, List.set_cons_succ]
                refine wpAnyH_take (i := 45) (oi := cop45) (v := ?_) rfl (by as_aux_lemma => kernel_rfl) (by as_aux_lemma => kernel_rfl) (by as_aux_lemma => kernel_rfl) (fun _ _ _ h => h) (Or.inl ⟨by rfl, ?_⟩) (by assumption) ?_
                rotate_left
                · unfold cop45; intro w hSw; (try dsimp only at hSw); go_simp; try (with_reducible rfl)
                try simp only [cop45, Act.put, List.setIfInBounds_toArray, List.set_cons_zero, List.set_cons_succ]
                refine wpAnyH_take (i := 46) (oi := cop46) (v := ?_) rfl (by as_aux_lemma => kernel_rfl) (by as_aux_lemma => kernel_rfl) (by as_aux_lemma => kernel_rfl) (fun _ _ _ h => h) (Or.inl ⟨by rfl, ?_⟩) (by assumption) ?_
                rotate_left
                · unfold cop46; intro w hSw; (try dsimp only at hSw); go_simp; try (with_reducible rfl)
                try simp only [cop46, Act.put, List.setIfInBounds_toArray, List.set_cons_zero, List.set_cons_succ]
                refine wpAnyH_take (i := 47) (oi := cop47) (v := ?_) rfl (by as_aux_lemma => kernel_rfl) (by as_aux_lemma => kernel_rfl) (by as_aux_lemma => kernel_rfl) (fun _ _ _ h => h) (Or.inl ⟨by rfl, ?_⟩) (by assumption) ?_
                rotate_left
                · unfold cop47; intro w hSw; (try dsimp only at hSw); go_simp; try (with_reducible rfl)
                try simp only [cop47, Act.put, List.setIfInBounds_toArray, List.set_cons_zero, List.set_cons_succ]
                refine wpAnyH_ready (rs := [48]) (by as_aux_lemma => kernel_rfl) (by simp) ?_
                refine (AllReadyH.cons (o := cop48) rfl (fun K hK => ?_) AllReadyH.nil)
                unfold cop48
                go_simp
                (go_at_call 16; (with_reducible refine (HBF.out _).mono ?_); rintro e z4 ⟨rfl, bl4⟩)
                try go_wp2_with fail
                refine hK.out _ _ ?_ (fun hHeld2 => ?_)
                · (refine keept4 BP_14 BS0 t1_18 t2_19 t4_20 hc0 ?_; repeat (first | exact Below.refl _ _ | refine below_drw ?_ | refine below_to ?_ (by assumption)))
                clear hK K hHeld
                have hHeld := hHeld2
                clear hHeld2
                try simp only [cop48, Act.put, List.setIfInBounds_toArray, List.set_cons_zero, List.set_cons_succ]
                as_aux_lemma =>
                 refine wpAnyH_take (i := 49) (oi := cop49) (v := ?_) rfl (by as_aux_lemma => kernel_rfl) (by as_aux_lemma => kernel_rfl) (by as_aux_lemma => kernel_rfl) (fun _ _ _ h => h) (Or.inl ⟨by rfl, ?_⟩) (by assumption) ?_
                 rotate_left
                 · unfold cop49; intro w hSw; (try dsimp only at hSw); go_simp; try (with_reducible rfl)
                 try simp only [cop49, Act.put, List.setIfInBounds_toArray, List.set_cons_zero, List.set_cons_succ]
                 refine wpAnyH_take (i := 50) (oi := cop50) (v := ?_) rfl (by as_aux_lemma => kernel_rfl) (by as_aux_lemma => kernel_rfl) (by as_aux_lemma => kernel_rfl) (fun _ _ _ h => h) (Or.inl ⟨by rfl, ?_⟩) (by assumption) ?_
                 rotate_left
                 · unfold cop50; intro w hSw; (try dsimp only at hSw); go_simp; try (with_reducible rfl)
                 try simp only [cop50, Act.put, List.setIfInBounds_toArray, List.set_cons_zero, List.set_cons_succ]
                 refine wpAnyH_take (i := 51) (oi := cop51) (v := ?_) rfl (by as_aux_lemma => kernel_rfl) (by as_aux_lemma => kernel_rfl) (by as_aux_lemma => kernel_rfl) (fun _ _ _ h => h) (Or.inl ⟨by rfl, ?_⟩) (by assumption) ?_
                 rotate_left
                 · unfold cop51; intro w hSw; (try dsimp only at hSw); go_simp; try (with_reducible rfl)
                 try simp only [cop51, Act.put, List.setIfInBounds_toArray, List.set_cons_zero, List.set_cons_succ]
                 refine wpAnyH_take (i := 52) (oi := cop52) (v := ?_) rfl (by as_aux_lemma => kernel_rfl) (by as_aux_lemma => kernel_rfl) (by as_aux_lemma => kernel_rfl) (fun _ _ _ h => h) (Or.inl ⟨by rfl, ?_⟩) (by assumption) ?_
                 rotate_left
                 · unfold cop52; intro w hSw; (try dsimp only at hSw); go_simp; try (with_reducible rfl)
                 try simp only [cop52, Act.put, List.setIfInBounds_toArray, List.set_cons_zero, List.set_cons_succ]
                 refine wpAnyH_take (i := 53) (oi := cop53) (v := ?_) rfl (by as_aux_lemma => kernel_rfl) (by as_aux_lemma => kernel_rfl) (by as_aux_lemma => kernel_rfl) (fun _ _ _ h => h) (Or.inl ⟨by rfl, ?_⟩) (by assumption) ?_
                 rotate_left
                 · unfold cop53; intro w hSw; (try dsimp only at hSw); go_simp; try (with_reducible rfl)
                 try simp only [cop53, Act.put, List.setIfInBounds_toArray, List.set_cons_zero, List.set_cons_succ]
                 refine wpAnyH_take (i := 54) (oi := cop54) (v := ?_) rfl (by as_aux_lemma => kernel_rfl) (by as_aux_lemma => kernel_rfl) (by as_aux_lemma => kernel_rfl) (fun _ _ _ h => h) (Or.inl ⟨by rfl, ?_⟩) (by assumption) ?_
                 rotate_left
                 · unfold cop54; intro w hSw; (try dsimp only at hSw); go_simp; try (with_reducible rfl)
                 try simp only [cop54, Act.put, List.setIfInBounds_toArray, List.set_cons_zero, List.set_cons_succ]
                 refine wpAnyH_take (i := 55) (oi := cop55) (v := ?_) rfl (by as_aux_lemma => kernel_rfl) (by as_aux_lemma => kernel_rfl) (by as_aux_lemma => kernel_rfl) (fun _ _ _ h => h) (Or.inl ⟨by rfl, ?_⟩) (by assumption) ?_
                 rotate_left
                 · unfold cop55; intro w hSw; (try dsimp only at hSw); go_simp; try (with_reducible rfl)
                 try simp only [cop55, Act.put, List.setIfInBounds_toArray, List.set_cons_zero, List.set_cons_succ]
                 refine wpAnyH_take (i := 56) (oi := cop56) (v := ?_) rfl (by as_aux_lemma => kernel_rfl) (by as_aux_lemma => kernel_rfl) (by as_aux_lemma => kernel_rfl) (fun _ _ _ h => h) (Or.inl ⟨by rfl, ?_⟩) (by assumption) ?_
                 rotate_left
                 · unfold cop56; intro w hSw; (try dsimp only at hSw); go_simp; try (with_reducible rfl)
                 try simp only [cop56, Act.put, List.setIfInBounds_toArray, List.set_cons_zero, List.set_cons_succ]
                 refine wpAnyH_take (i := 57) (oi := cop57) (v := ?_) rfl (by as_aux_lemma => kernel_rfl) (by as_aux_lemma => kernel_rfl) (by as_aux_lemma => kernel_rfl) (fun _ _ _ h => h) (Or.inl ⟨by rfl, ?_⟩) (by assumption) ?_
                 rotate_left
                 · unfold cop57; intro w hSw; (try dsimp only at hSw); go_simp; try (with_reducible rfl)
                 try simp only [cop57, Act.put, List.setIfInBounds_toArray, List.set_cons_zero, List.set_cons_succ]
                 refine wpAnyH_take (i := 58) (oi := cop58) (v := ?_) rfl (by as_aux_lemma => kernel_rfl) (by as_aux_lemma => kernel_rfl) (by as_aux_lemma => kernel_rfl) (fun _ _ _ h => h) (Or.inl ⟨by rfl, ?_⟩) (by assumption) ?_
                 rotate_left
                 · unfold cop58; intro w hSw; (try dsimp only at hSw); go_simp; try (with_reducible rfl)
                 try simp only [cop58, Act.put, List.setIfInBounds_toArray, List.set_cons_zero, List.set_cons_succ]
                 refine wpAnyH_take (i := 59) (oi := cop59) (v := ?_) rfl (by as_aux_lemma => kernel_rfl) (by as_aux_lemma => kernel_rfl) (by as_aux_lemma => kernel_rfl) (fun _ _ _ h => h) (Or.inl ⟨by rfl, ?_⟩) (by assumption) ?_
                 rotate_left
                 · unfold cop59; intro w hSw; (try dsimp only at hSw); go_simp; try (with_reducible rfl)
                 try simp only [cop59, Act.put, List.setIfInBounds_toArray, List.set_cons_zero, List.set_cons_succ]
                 refine wpAnyH_take (i := 60) (oi := cop60) (v := ?_) rfl (by as_aux_lemma => kernel_rfl) (by as_aux_lemma => kernel_rfl) (by as_aux_lemma => kernel_rfl) (fun _ _ _ h => h) (Or.inl ⟨by rfl, ?_⟩) (by assumption) ?_
                 rotate_left
                 · unfold cop60; intro w hSw; (try dsimp only at hSw); go_simp; try (with_reducible rfl)
                 try simp only [cop60, Act.put, List.setIfInBounds_toArray, List.set_cons_zero, List.set_cons_succ]
                 as_aux_lemma =>
                  refine wpAnyH_take (i := 61) (oi := cop61) (v := ?_) rfl (by as_aux_lemma => kernel_rfl) (by as_aux_lemma => kernel_rfl) (by as_aux_lemma => kernel_rfl) (fun _ _ _ h => h) (Or.inl ⟨by rfl, ?_⟩) (by assumption) ?_
                  rotate_left
                  · unfold cop61; intro w hSw; (try dsimp only at hSw); go_simp; exact HEQ.out w
                  try simp only [cop61, Act.put, List.setIfInBounds_toArray, List.set_cons_zero, List.set_cons_succ]
                  refine wpAnyH_take (i := 62) (oi := cop62) (v := ?_) rfl (by as_aux_lemma => kernel_rfl) (by as_aux_lemma => kernel_rfl) (by as_aux_lemma => kernel_rfl) (fun _ _ _ h => h) (Or.inl ⟨by rfl, ?_⟩) (by assumption) ?_
                  rotate_left
                  · unfold cop62; intro w hSw; (try dsimp only at hSw); go_simp; try (with_reducible rfl)
                  try simp only [cop62, Act.put, List.setIfInBounds_toArray, List.set_cons_zero, List.set_cons_succ]
                  refine wpAnyH_done (by kernel_rfl) ?_ _
                  go_wp2_with fail
                  go_meet
                  refine ⟨rfl, ?_⟩
                  repeat (first | exact Below.refl _ _ | refine below_drw ?_ | refine below_to ?_ (by assumption))
      case rest =>
        obtain ⟨rfl, hb6⟩ := hcut
        rename World => wd
        clear t1_18 t2_19 t4_20
        have Hps_21 := Lib.hid (Hps_13.out.below hb6)
        have BP_22 := BP_14.to hb6
        have HCS_23 := Lib.hid (HCS_15.out.below hb6)
        have b_24 := below_to b_16 hb6
        have b4_25 := below_to b4_17 hb6
        have BS_26 := BS0.to hb6
        clear Hps_13 BP_14 HCS_15 b_16 b4_17 BS0
        go_wp2
        go_roundw
        case rel => exact ⟨i + 1, by omega, by go_num, b_24, b4_25⟩
        case measure => simp [intOf]; omega
    · have h12 : i = p := by omega
      clear h12
      obtain ⟨X, Y, f1, f2, f3, f4⟩ := inner_facts HFps.out
      have HIN := Lib.hid (fun V (h : HsAt V (some ⟨g, o, none⟩) ps) => impl_inn _ p cp ps V HLps.out (by omega) H64ps.out h)
      rw [f1] at HIN
      unfold spotS at HIN
      have HOX := Lib.hid f2
      have HHS := Lib.hid (fun V (h : HsAt V (some ⟨g, o, none⟩) ps) => impl_has _ p cp ps X Y 1 V HLps.out (by omega) H64ps.out (okS64' HOX.out) h)
      rw [f3] at HHS
      have HWH := Lib.hid (fun V => impl_whole X Y 1 V (okS64' HOX.out).1.1 (okS64' HOX.out).1.2 (okS64' HOX.out).2.1.1 (okS64' HOX.out).2.1.2 (by omega) (by omega))
      rw [show wholeS X Y 1 = true by unfold wholeS; rw [f2]; rfl] at HWH
      have HWN := Lib.hid (fun V (h : HsAt V (some ⟨g, o, none⟩) ps) => impl_who _ p cp ps V HLps.out (by omega) H64ps.out h)
      generalize whoN ps = wn at *
      have hd := decide_eq_true f4
      clear f1 f2 f3
      have q0 := BP_11.cell0 (i := 0) rfl
      go_wp2_with fail
      clear q0
      refine (HIN.out _ Hps_10.out).mono ?_
      rintro e v2 ⟨rfl, bl⟩
      have Hps_27 := Lib.hid (Hps_10.out.below bl)
      have BP_28 := BP_11.to bl
      have HCS_29 := Lib.hid (HCS_12.out.below bl)
      have b_30 := below_to hbw bl
      have b4_31 := below_to hb4 bl
      clear Hps_10 BP_11 HCS_12 hbw hb4
      clear bl
      have bN := below_one v2 (.cells #[.int .i64 X, .int .i64 Y, .int .i64 1] 31)
      have BZ0 := blk_new v2 #[.int .i64 X, .int .i64 Y, .int .i64 1] 31 rfl
      have Hps_32 := Lib.hid (Hps_27.out.below bN)
      have BP_33 := BP_28.to bN
      have HCS_34 := Lib.hid (HCS_29.out.below bN)
      have b_35 := below_to b_30 bN
      have b4_36 := below_to b4_31 bN
      clear Hps_27 BP_28 HCS_29 b_30 b4_31
      clear bN
      have q0 := BP_33.cell0 (i := 0) rfl
      have q1 := BZ0.cell0 (i := 0) rfl
      have q2 := BZ0.cell0 (i := 1) rfl
      have q3 := BZ0.cell0 (i := 2) rfl
      go_wp2_with fail
      clear q0 q1 q2 q3
      generalize v2.alloc (.cells #[.int .i64 X, .int .i64 Y, .int .i64 1] 31) = U6 at *
      obtain ⟨bz, hbk⟩ : ∃ b, v2.heap.size = b := ⟨_, rfl⟩
      rw [hbk] at BZ0 ⊢
      clear hbk
      refine (HHS.out _ Hps_32.out).mono ?_
      rintro e v3 ⟨rfl, bl⟩
      have Hps_37 := Lib.hid (Hps_32.out.below bl)
      have BP_38 := BP_33.to bl
      have HCS_39 := Lib.hid (HCS_34.out.below bl)
      have b_40 := below_to b_35 bl
      have b4_41 := below_to b4_36 bl
      have BZ_42 := BZ0.to bl
      clear Hps_32 BP_33 HCS_34 b_35 b4_36 BZ0
      clear bl
      have q0 := BZ_42.cell0 (i := 0) rfl
      have q1 := BZ_42.cell0 (i := 1) rfl
      have q2 := BZ_42.cell0 (i := 2) rfl
      go_wp2_with fail
      clear q0 q1 q2
      refine (HWH.out _).mono ?_
      rintro e v4 ⟨rfl, bl⟩
      have Hps_43 := Lib.hid (Hps_37.out.below bl)
      have BP_44 := BP_38.to bl
      have HCS_45 := Lib.hid (HCS_39.out.below bl)
      have b_46 := below_to b_40 bl
      have b4_47 := below_to b4_41 bl
      have BZ_48 := BZ_42.to bl
      clear Hps_37 BP_38 HCS_39 b_40 b4_41 BZ_42
      clear bl
      have q0 := BP_44.cell0 (i := 0) rfl
      go_wp2_with fail
      clear q0
      refine (HWN.out _ Hps_43.out).mono ?_
      rintro e v5 ⟨rfl, bl⟩
      have Hps_49 := Lib.hid (Hps_43.out.below bl)
      have BP_50 := BP_44.to bl
      have HCS_51 := Lib.hid (HCS_45.out.below bl)
      have b_52 := below_to b_46 bl
      have b4_53 := below_to b4_47 bl
      have BZ_54 := BZ_48.to bl
      clear Hps_43 BP_44 HCS_45 b_46 b4_47 BZ_48
      clear bl
      go_wp2
      go_ret
      exact ⟨rfl, b_52⟩
end Go.Proofs.Ytfndkapjclhflaa
