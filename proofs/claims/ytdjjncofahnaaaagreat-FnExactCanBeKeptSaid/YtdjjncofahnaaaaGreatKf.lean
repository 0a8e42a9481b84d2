/- CentreInput and IsInput of the program and of the model, over the translation. IsInput of the program and of the model, over the translation. -/
import Derived.Test.YtdjjncofahnaaaaGreatKd
import Derived.Test.YtdjjncofahnaaaaGreatCq
namespace Go.Proofs.YtdjjncofahnaaaaGreat
open Go.RowKit
open Geo (H3)

/-- the middle of a range -/
def cenN (s : Int) : Int := sgnR s 2
def cenD (s : Int) : Nat := botR s 2
def cenV (b : Bool) (s : Int) : Value := if b = true then .agg #[.int .i64 (cenN s), .int .i64 (cenD s)] else .agg #[.int .i64 0, .int .i64 0]
theorem cen_ex (b : Bool) (s : Int) : ∃ N D : Int, cenV b s = .agg #[.int .i64 N, .int .i64 D] := by
  unfold cenV; split
  · exact ⟨_, _, rfl⟩
  · exact ⟨0, 0, rfl⟩
theorem cen_has {s : Int} (h1 : -2000 ≤ s) (h2 : s ≤ 2000) : hasR s 2 = true ∧ topR s 2 ≤ 2000 ∧ botR s 2 ≤ 2 ∧ (-2000 ≤ sgnR s 2 ∧ sgnR s 2 ≤ 2000) := by
  have e := sgn_abs s 2
  have t : topR s 2 ≤ 2000 := by
    have : topR s 2 ≤ s.natAbs := by unfold topR; exact Nat.div_le_self _ _
    omega
  have b : botR s 2 ≤ 2 := by unfold botR; exact Nat.div_le_self _ _
  refine ⟨(hasR_iff s 2).2 ⟨by omega, by omega, by omega⟩, t, b, by omega⟩
theorem rm_rng {zs : List Int} {q bx cy lo hi : Int} {ps qs : List H3} (h : rmB zs q bx cy lo hi ps qs = true) : (-1000 ≤ lo ∧ lo ≤ 1000) ∧ (lo ≤ hi ∧ hi ≤ 1000) ∧ mapB zs q = true ∧ (-100 ≤ bx ∧ bx ≤ 100) ∧ (-100 ≤ cy ∧ cy ≤ 100) ∧ ps ≠ [] ∧ rokB ps = true ∧ qs ≠ [] ∧ rokB qs = true := by
  rw [rm_eq] at h
  simp only [Bool.and_eq_true, Bool.not_eq_true', decide_eq_false_iff_not] at h
  obtain ⟨⟨⟨⟨⟨⟨⟨⟨⟨h1, _⟩, h2⟩, h3⟩, h4⟩, h5⟩, h6⟩, h7⟩, h8⟩, h9⟩ := h
  exact ⟨of_inB h4, of_inB h5, h1, of_inB h2, of_inB h3, h8, h6, h9, h7⟩

/-- whether an input is in a room's range -/
def isiB (zs : List Int) (q bx cy lo hi : Int) (ps qs : List H3) (uN uD : Int) : Bool := rmB zs q bx cy lo hi ps qs && okR uN uD && inB uN (lo * uD) (hi * uD)

def iop0 : Oper :=
  { dst := some 13, op := Op.fieldAddr 28 (Operand.tmp 2) 4, type := 0, pos := "l08_room.go:99", after := #[], guard := none }
def iop1 : Oper :=
  { dst := some 14, op := Op.load 3 (Operand.tmp 13), type := 3, pos := "l08_room.go:99", after := #[{ on := 0, ground := Ground.data }], guard := none }
def iop2 : Oper :=
  { dst := some 15, op := Op.call { callee := Callee.value (Operand.func 65), args := #[Operand.tmp 14, Operand.const (Value.int IntKind.i64 1)], argTypes := #[3, 3] }, type := 50, pos := "l08_room.go:99", after := #[{ on := 1, ground := Ground.data }], guard := none }
def iop3 : Oper :=
  { dst := some 16, op := Op.load 50 (Operand.tmp 3), type := 50, pos := "l08_room.go:99", after := #[], guard := none }
def iop4 : Oper :=
  { dst := some 17, op := Op.call { callee := Callee.value (Operand.func 116), args := #[Operand.tmp 15, Operand.tmp 16], argTypes := #[50, 50] }, type := 3, pos := "l08_room.go:99", after := #[{ on := 2, ground := Ground.data }, { on := 3, ground := Ground.data }, { on := 2, ground := Ground.chain }], guard := none }
def iop5 : Oper :=
  { dst := some 18, op := Op.binOp BinOp.leq 3 (Operand.tmp 17) (Operand.const (Value.int IntKind.i64 0)) 3, type := 4, pos := "l08_room.go:99", after := #[{ on := 4, ground := Ground.data }], guard := none }
def iop6 : Oper :=
  { dst := some 19, op := Op.move (Operand.tmp 18), type := 4, pos := "l08_room.go:99", after := #[{ on := 5, ground := Ground.data }, { on := 4, ground := Ground.chain }], guard := none }
def iop7 : Oper :=
  { dst := some 20, op := Op.load 50 (Operand.tmp 3), type := 50, pos := "l08_room.go:99", after := #[{ on := 6, ground := Ground.guard }], guard := some (6, true) }
def iop8 : Oper :=
  { dst := some 21, op := Op.fieldAddr 28 (Operand.tmp 2) 5, type := 0, pos := "l08_room.go:99", after := #[{ on := 6, ground := Ground.guard }], guard := some (6, true) }
def iop9 : Oper :=
  { dst := some 22, op := Op.load 3 (Operand.tmp 21), type := 3, pos := "l08_room.go:99", after := #[{ on := 8, ground := Ground.data }, { on := 6, ground := Ground.guard }], guard := some (6, true) }
def iop10 : Oper :=
  { dst := some 23, op := Op.call { callee := Callee.value (Operand.func 65), args := #[Operand.tmp 22, Operand.const (Value.int IntKind.i64 1)], argTypes := #[3, 3] }, type := 50, pos := "l08_room.go:99", after := #[{ on := 9, ground := Ground.data }, { on := 6, ground := Ground.chain }, { on := 6, ground := Ground.guard }], guard := some (6, true) }
def iop11 : Oper :=
  { dst := some 24, op := Op.call { callee := Callee.value (Operand.func 116), args := #[Operand.tmp 20, Operand.tmp 23], argTypes := #[50, 50] }, type := 3, pos := "l08_room.go:99", after := #[{ on := 7, ground := Ground.data }, { on := 10, ground := Ground.data }, { on := 10, ground := Ground.chain }, { on := 6, ground := Ground.guard }], guard := some (6, true) }
def iop12 : Oper :=
  { dst := some 25, op := Op.binOp BinOp.leq 3 (Operand.tmp 24) (Operand.const (Value.int IntKind.i64 0)) 3, type := 4, pos := "l08_room.go:99", after := #[{ on := 11, ground := Ground.data }, { on := 6, ground := Ground.guard }], guard := some (6, true) }
def iop13 : Oper :=
  { dst := some 26, op := Op.pick (Operand.tmp 19) (Operand.tmp 25) (Operand.const (Value.bool false)), type := 4, pos := "l08_room.go:99", after := #[{ on := 6, ground := Ground.data }, { on := 12, ground := Ground.data }], guard := none }
def iop14 : Oper :=
  { dst := some 4, op := Op.assign (Operand.tmp 26), type := 4, pos := "l08_room.go:99", after := #[{ on := 13, ground := Ground.data }, { on := 11, ground := Ground.chain }, { on := 0, ground := Ground.phase }, { on := 1, ground := Ground.phase }, { on := 2, ground := Ground.phase }, { on := 3, ground := Ground.phase }, { on := 4, ground := Ground.phase }, { on := 5, ground := Ground.phase }, { on := 6, ground := Ground.phase }, { on := 7, ground := Ground.phase }, { on := 8, ground := Ground.phase }, { on := 9, ground := Ground.phase }, { on := 10, ground := Ground.phase }, { on := 11, ground := Ground.phase }, { on := 12, ground := Ground.phase }, { on := 13, ground := Ground.phase }], guard := none }
theorem cmp_low {lo uN uD : Int} : (cmpR lo 1 uN uD ≤ 0 ↔ lo * uD ≤ uN) ∧ (cmpR uN uD lo 1 ≤ 0 ↔ uN ≤ lo * uD) := by
  unfold cmpR
  rw [Int.mul_one]
  constructor <;> (split <;> (try split) <;> omega)
theorem one_has (n : Int) (h1 : -1000 ≤ n) (h2 : n ≤ 1000) : hasR n 1 = true ∧ sgnR n 1 = n ∧ topR n 1 = n.natAbs ∧ botR n 1 = 1 ∧ okR n 1 = true := by
  have e : Int.gcd n 1 = 1 := by simp
  have t : topR n 1 = n.natAbs := by unfold topR; rw [e]; simp
  have b : botR n 1 = 1 := by unfold botR; rw [e]; rfl
  have s : sgnR n 1 = n := by
    unfold sgnR
    rw [t]
    by_cases h : n < 0
    · rw [if_pos (by simp [h])]; omega
    · rw [if_neg (by simp [h])]; omega
  refine ⟨(hasR_iff n 1).2 ⟨by omega, by omega, by omega⟩, s, t, b, (okR_iff _ _).2 ⟨by omega, by omega, by omega, by omega, by simp⟩⟩
end Go.Proofs.YtdjjncofahnaaaaGreat
