/- The walk of the law FnRounds. -/
import Derived.Test.YtdjjncofahnaaaaGreatEa
import Derived.Test.YtdjjncofahnaaaaGreatEe
import Derived.Test.YtdjjncofahnaaaaGreatMf
namespace Go.Proofs.YtdjjncofahnaaaaGreat
open Go.RowKit
open Geo (H3)

theorem rnd_keep {V X : World} {A B C D : Nat} {a0 a1 a2 b0 b1 b2 c0 c1 c2 d0 d1 : Value} {T U T' U' : TypeId} (ha : Blk V A #[a0, a1, a2] T) (hb : Blk V B #[b0, b1, b2] U) (hc : Blk V C #[c0, c1, c2] T') (hd : Blk V D #[d0, d1] U') (h : Below V.heap.size V X) :
    X.cell? ⟨A, 0, none⟩ = some a0 ∧ X.cell? ⟨B, 0, none⟩ = some b0 ∧ X.cell? ⟨B, 2, none⟩ = some b2 ∧ X.cell? ⟨C, 0, none⟩ = some c0 ∧ X.cell? ⟨C, 1, none⟩ = some c1 ∧ X.cell? ⟨C, 2, none⟩ = some c2 ∧ X.cell? ⟨D, 0, none⟩ = some d0 :=
  ⟨(ha.to h).cell0 rfl, (hb.to h).cell0 rfl, (hb.to h).cell0 rfl, (hc.to h).cell0 rfl, (hc.to h).cell0 rfl, (hc.to h).cell0 rfl, (hd.to h).cell0 rfl⟩
def rnp0 : Oper :=
  { dst := some 68, op := Go.Op.fieldAddr 43 (Go.Operand.tmp 6) 0, type := 0, pos := "laws.go:422", after := #[], guard := none }
def rnp1 : Oper :=
  { dst := some 69, op := Go.Op.load 26 (Go.Operand.tmp 68), type := 26, pos := "laws.go:422", after := #[{ on := 0, ground := Go.Ground.data }], guard := none }
def rnp2 : Oper :=
  { dst := some 70, op := Go.Op.fieldAddr 43 (Go.Operand.tmp 4) 0, type := 0, pos := "laws.go:422", after := #[], guard := none }
def rnp3 : Oper :=
  { dst := some 71, op := Go.Op.load 26 (Go.Operand.tmp 70), type := 26, pos := "laws.go:422", after := #[{ on := 2, ground := Go.Ground.data }], guard := none }
def rnp4 : Oper :=
  { dst := some 72, op := Go.Op.call { callee := Go.Callee.value (Go.Operand.func 16), args := #[Go.Operand.tmp 69, Go.Operand.tmp 71], argTypes := #[26, 26] }, type := 4, pos := "laws.go:422", after := #[{ on := 1, ground := Go.Ground.data }, { on := 3, ground := Go.Ground.data }], guard := none }
def rnp5 : Oper :=
  { dst := some 73, op := Go.Op.unOp Go.UnOp.not 4 (Go.Operand.tmp 72), type := 4, pos := "laws.go:422", after := #[{ on := 4, ground := Go.Ground.data }], guard := none }
def rnp6 : Oper :=
  { dst := some 74, op := Go.Op.move (Go.Operand.tmp 73), type := 4, pos := "laws.go:422", after := #[{ on := 5, ground := Go.Ground.data }, { on := 4, ground := Go.Ground.chain }], guard := none }
def rnp7 : Oper :=
  { dst := some 75, op := Go.Op.fieldAddr 43 (Go.Operand.tmp 8) 0, type := 0, pos := "laws.go:422", after := #[{ on := 6, ground := Go.Ground.guard }], guard := some (6, false) }
def rnp8 : Oper :=
  { dst := some 76, op := Go.Op.load 26 (Go.Operand.tmp 75), type := 26, pos := "laws.go:422", after := #[{ on := 7, ground := Go.Ground.data }, { on := 6, ground := Go.Ground.guard }], guard := some (6, false) }
def rnp9 : Oper :=
  { dst := some 77, op := Go.Op.fieldAddr 43 (Go.Operand.tmp 6) 0, type := 0, pos := "laws.go:422", after := #[{ on := 6, ground := Go.Ground.guard }], guard := some (6, false) }
def rnp10 : Oper :=
  { dst := some 78, op := Go.Op.load 26 (Go.Operand.tmp 77), type := 26, pos := "laws.go:422", after := #[{ on := 9, ground := Go.Ground.data }, { on := 6, ground := Go.Ground.guard }], guard := some (6, false) }
def rnp11 : Oper :=
  { dst := some 79, op := Go.Op.call { callee := Go.Callee.value (Go.Operand.func 16), args := #[Go.Operand.tmp 76, Go.Operand.tmp 78], argTypes := #[26, 26] }, type := 4, pos := "laws.go:422", after := #[{ on := 8, ground := Go.Ground.data }, { on := 10, ground := Go.Ground.data }, { on := 6, ground := Go.Ground.chain }, { on := 6, ground := Go.Ground.guard }], guard := some (6, false) }
def rnp12 : Oper :=
  { dst := some 80, op := Go.Op.unOp Go.UnOp.not 4 (Go.Operand.tmp 79), type := 4, pos := "laws.go:422", after := #[{ on := 11, ground := Go.Ground.data }, { on := 6, ground := Go.Ground.guard }], guard := some (6, false) }
def rnp13 : Oper :=
  { dst := some 81, op := Go.Op.pick (Go.Operand.tmp 74) (Go.Operand.const (Go.Value.bool true)) (Go.Operand.tmp 80), type := 4, pos := "laws.go:422", after := #[{ on := 6, ground := Go.Ground.data }, { on := 12, ground := Go.Ground.data }], guard := none }
def rnp14 : Oper :=
  { dst := some 82, op := Go.Op.move (Go.Operand.tmp 81), type := 4, pos := "laws.go:422", after := #[{ on := 13, ground := Go.Ground.data }, { on := 11, ground := Go.Ground.chain }], guard := none }
def rnp15 : Oper :=
  { dst := some 83, op := Go.Op.fieldAddr 43 (Go.Operand.tmp 8) 1, type := 0, pos := "laws.go:422", after := #[{ on := 14, ground := Go.Ground.guard }], guard := some (14, false) }
def rnp16 : Oper :=
  { dst := some 84, op := Go.Op.load 3 (Go.Operand.tmp 83), type := 3, pos := "laws.go:422", after := #[{ on := 15, ground := Go.Ground.data }, { on := 14, ground := Go.Ground.guard }], guard := some (14, false) }
def rnp17 : Oper :=
  { dst := some 85, op := Go.Op.binOp Go.BinOp.gtr 3 (Go.Operand.tmp 84) (Go.Operand.const (Go.Value.int Go.IntKind.i64 2)) 3, type := 4, pos := "laws.go:422", after := #[{ on := 16, ground := Go.Ground.data }, { on := 14, ground := Go.Ground.guard }], guard := some (14, false) }
def rnp18 : Oper :=
  { dst := some 86, op := Go.Op.pick (Go.Operand.tmp 82) (Go.Operand.const (Go.Value.bool true)) (Go.Operand.tmp 85), type := 4, pos := "laws.go:422", after := #[{ on := 14, ground := Go.Ground.data }, { on := 17, ground := Go.Ground.data }], guard := none }
def rnp19 : Oper :=
  { dst := some 87, op := Go.Op.move (Go.Operand.tmp 86), type := 4, pos := "laws.go:422", after := #[{ on := 18, ground := Go.Ground.data }, { on := 14, ground := Go.Ground.chain }], guard := none }
def rnp20 : Oper :=
  { dst := some 88, op := Go.Op.fieldAddr 43 (Go.Operand.tmp 6) 2, type := 0, pos := "laws.go:422", after := #[{ on := 19, ground := Go.Ground.guard }], guard := some (19, false) }
def rnp21 : Oper :=
  { dst := some 89, op := Go.Op.load 4 (Go.Operand.tmp 88), type := 4, pos := "laws.go:422", after := #[{ on := 20, ground := Go.Ground.data }, { on := 19, ground := Go.Ground.guard }], guard := some (19, false) }
def rnp22 : Oper :=
  { dst := some 90, op := Go.Op.move (Go.Operand.tmp 89), type := 4, pos := "laws.go:422", after := #[{ on := 21, ground := Go.Ground.data }, { on := 19, ground := Go.Ground.chain }, { on := 19, ground := Go.Ground.guard }], guard := some (19, false) }
def rnp23 : Oper :=
  { dst := some 91, op := Go.Op.fieldAddr 43 (Go.Operand.tmp 8) 2, type := 0, pos := "laws.go:422", after := #[{ on := 22, ground := Go.Ground.guard }], guard := some (22, true) }
def rnp24 : Oper :=
  { dst := some 92, op := Go.Op.load 4 (Go.Operand.tmp 91), type := 4, pos := "laws.go:422", after := #[{ on := 23, ground := Go.Ground.data }, { on := 22, ground := Go.Ground.guard }], guard := some (22, true) }
def rnp25 : Oper :=
  { dst := some 93, op := Go.Op.unOp Go.UnOp.not 4 (Go.Operand.tmp 92), type := 4, pos := "laws.go:422", after := #[{ on := 24, ground := Go.Ground.data }, { on := 22, ground := Go.Ground.guard }], guard := some (22, true) }
def rnp26 : Oper :=
  { dst := some 94, op := Go.Op.pick (Go.Operand.tmp 90) (Go.Operand.tmp 93) (Go.Operand.const (Go.Value.bool false)), type := 4, pos := "laws.go:422", after := #[{ on := 22, ground := Go.Ground.data }, { on := 25, ground := Go.Ground.data }, { on := 19, ground := Go.Ground.guard }], guard := some (19, false) }
def rnp27 : Oper :=
  { dst := some 95, op := Go.Op.pick (Go.Operand.tmp 87) (Go.Operand.const (Go.Value.bool true)) (Go.Operand.tmp 94), type := 4, pos := "laws.go:422", after := #[{ on := 19, ground := Go.Ground.data }, { on := 26, ground := Go.Ground.data }], guard := none }
def rnp28 : Oper :=
  { dst := some 96, op := Go.Op.move (Go.Operand.tmp 95), type := 4, pos := "laws.go:422", after := #[{ on := 27, ground := Go.Ground.data }, { on := 22, ground := Go.Ground.chain }], guard := none }
def rnp29 : Oper :=
  { dst := some 97, op := Go.Op.move (Go.Operand.tmp 11), type := 4, pos := "laws.go:422", after := #[{ on := 28, ground := Go.Ground.guard }], guard := some (28, false) }
def rnp30 : Oper :=
  { dst := some 98, op := Go.Op.move (Go.Operand.tmp 97), type := 4, pos := "laws.go:422", after := #[{ on := 29, ground := Go.Ground.data }, { on := 28, ground := Go.Ground.chain }, { on := 28, ground := Go.Ground.guard }], guard := some (28, false) }
def rnp31 : Oper :=
  { dst := some 99, op := Go.Op.fieldAddr 50 (Go.Operand.tmp 10) 0, type := 0, pos := "laws.go:422", after := #[{ on := 30, ground := Go.Ground.guard }], guard := some (30, true) }
def rnp32 : Oper :=
  { dst := some 100, op := Go.Op.load 3 (Go.Operand.tmp 99), type := 3, pos := "laws.go:422", after := #[{ on := 31, ground := Go.Ground.data }, { on := 30, ground := Go.Ground.guard }], guard := some (30, true) }
def rnp33 : Oper :=
  { dst := some 101, op := Go.Op.binOp Go.BinOp.lss 3 (Go.Operand.tmp 100) (Go.Operand.const (Go.Value.int Go.IntKind.i64 0)) 3, type := 4, pos := "laws.go:422", after := #[{ on := 32, ground := Go.Ground.data }, { on := 30, ground := Go.Ground.guard }], guard := some (30, true) }
def rnp34 : Oper :=
  { dst := some 102, op := Go.Op.move (Go.Operand.tmp 101), type := 4, pos := "laws.go:422", after := #[{ on := 33, ground := Go.Ground.data }, { on := 30, ground := Go.Ground.chain }, { on := 30, ground := Go.Ground.guard }], guard := some (30, true) }
def rnp35 : Oper :=
  { dst := some 103, op := Go.Op.fieldAddr 50 (Go.Operand.tmp 10) 0, type := 0, pos := "laws.go:422", after := #[{ on := 34, ground := Go.Ground.guard }], guard := some (34, false) }
def rnp36 : Oper :=
  { dst := some 104, op := Go.Op.load 3 (Go.Operand.tmp 103), type := 3, pos := "laws.go:422", after := #[{ on := 35, ground := Go.Ground.data }, { on := 34, ground := Go.Ground.guard }], guard := some (34, false) }
def rnp37 : Oper :=
  { dst := some 105, op := Go.Op.binOp Go.BinOp.eql 3 (Go.Operand.tmp 104) (Go.Operand.const (Go.Value.int Go.IntKind.i64 0)) 3, type := 4, pos := "laws.go:422", after := #[{ on := 36, ground := Go.Ground.data }, { on := 34, ground := Go.Ground.guard }], guard := some (34, false) }
def rnp38 : Oper :=
  { dst := some 106, op := Go.Op.fieldAddr 43 (Go.Operand.tmp 4) 0, type := 0, pos := "laws.go:422", after := #[{ on := 34, ground := Go.Ground.guard }], guard := some (34, false) }
def rnp39 : Oper :=
  { dst := some 107, op := Go.Op.load 26 (Go.Operand.tmp 106), type := 26, pos := "laws.go:422", after := #[{ on := 38, ground := Go.Ground.data }, { on := 34, ground := Go.Ground.guard }], guard := some (34, false) }
def rnp40 : Oper :=
  { dst := some 108, op := Go.Op.fieldAddr 43 (Go.Operand.tmp 6) 0, type := 0, pos := "laws.go:422", after := #[{ on := 34, ground := Go.Ground.guard }], guard := some (34, false) }
def rnp41 : Oper :=
  { dst := some 109, op := Go.Op.load 26 (Go.Operand.tmp 108), type := 26, pos := "laws.go:422", after := #[{ on := 40, ground := Go.Ground.data }, { on := 34, ground := Go.Ground.guard }], guard := some (34, false) }
def rnp42 : Oper :=
  { dst := some 110, op := Go.Op.call { callee := Go.Callee.value (Go.Operand.func 21), args := #[Go.Operand.tmp 107, Go.Operand.tmp 109], argTypes := #[26, 26] }, type := 4, pos := "laws.go:422", after := #[{ on := 39, ground := Go.Ground.data }, { on := 41, ground := Go.Ground.data }, { on := 34, ground := Go.Ground.chain }, { on := 34, ground := Go.Ground.guard }], guard := some (34, false) }
def rnp43 : Oper :=
  { dst := some 111, op := Go.Op.binOp Go.BinOp.neq 4 (Go.Operand.tmp 105) (Go.Operand.tmp 110) 4, type := 4, pos := "laws.go:422", after := #[{ on := 37, ground := Go.Ground.data }, { on := 42, ground := Go.Ground.data }, { on := 34, ground := Go.Ground.guard }], guard := some (34, false) }
def rnp44 : Oper :=
  { dst := some 112, op := Go.Op.pick (Go.Operand.tmp 102) (Go.Operand.const (Go.Value.bool true)) (Go.Operand.tmp 111), type := 4, pos := "laws.go:422", after := #[{ on := 34, ground := Go.Ground.data }, { on := 43, ground := Go.Ground.data }, { on := 30, ground := Go.Ground.guard }], guard := some (30, true) }
def rnp45 : Oper :=
  { dst := some 113, op := Go.Op.pick (Go.Operand.tmp 98) (Go.Operand.tmp 112) (Go.Operand.const (Go.Value.bool false)), type := 4, pos := "laws.go:422", after := #[{ on := 30, ground := Go.Ground.data }, { on := 44, ground := Go.Ground.data }, { on := 28, ground := Go.Ground.guard }], guard := some (28, false) }
def rnp46 : Oper :=
  { dst := some 114, op := Go.Op.pick (Go.Operand.tmp 96) (Go.Operand.const (Go.Value.bool true)) (Go.Operand.tmp 113), type := 4, pos := "laws.go:422", after := #[{ on := 28, ground := Go.Ground.data }, { on := 45, ground := Go.Ground.data }], guard := none }
set_option maxRecDepth 100000 in
set_option maxHeartbeats 6400000 in
theorem law_rounds (a : Option Addr) (len cap : Nat) (w : World) (_hm : len ≤ maxLen) (hB : BytesAt w a len) :
    Calls Tryz.prog 4 #[.slice a len cap] w fun e w' => e = .returned (.bool true) ∧ Below w.heap.size w w' := by
  by_cases hle : (1048576 : Int) < (len : Int)
  · go_enter Tryz.func4, Tryz.ntmps4
    go_wp2
    go_ret
    exact ⟨rfl, Below.refl _ _⟩
  have HB := Lib.hid hB
  have hl : len ≤ 1048576 := by omega
  clear hB
  go_enter Tryz.func4, Tryz.ntmps4
  go_wp2_with fail
  refine (make_room w a len cap hl HB.out).mono ?_
  rintro e w1 ⟨zs, q, bx, cy, lo, hi, ps, qs, am, nm, cm, an, nn, cn, al, nl, cl, hF, hsum, rfl, hA, bl⟩
  have HF := Lib.hid hF
  have hlo := hF.2.2.2.2.1
  have hhi := hF.2.2.2.2.2.1
  have H64 := Lib.hid hF.r64
  have HRM := Lib.hid (hF.rm (lo' := lo) (hi' := hi) (by omega) (by omega))
  have HSUM := Lib.hid (show nm + nn + nl ≤ 1048576 by omega)
  have HNL := Lib.hid (show nl ≤ 1048576 by omega)
  have HR0 := Lib.hid hA
  have HLL := Lib.hid hA.ll
  have hzero := rr_zero HRM.out
  have b0 := bl
  clear hF hA bl hsum
  have bN := below_one w1 (.cells #[.slice am nm cm, .int .i64 q, .int .i64 bx, .int .i64 cy, .int .i64 lo, .int .i64 hi, .slice an nn cn, .slice al nl cl] 28)
  have BX0 := blk_new w1 #[.slice am nm cm, .int .i64 q, .int .i64 bx, .int .i64 cy, .int .i64 lo, .int .i64 hi, .slice an nn cn, .slice al nl cl] 28 rfl
  have b_1 := below_to b0 bN
  have HR_2 := Lib.hid (HR0.out.below bN)
  clear b0 HR0
  clear bN
  have q0 := BX0.cell0 (i := 0) (v := .slice am nm cm) rfl
  have q1 := BX0.cell0 (i := 1) (v := .int .i64 q) rfl
  have q2 := BX0.cell0 (i := 2) (v := .int .i64 bx) rfl
  have q3 := BX0.cell0 (i := 3) (v := .int .i64 cy) rfl
  have q4 := BX0.cell0 (i := 4) (v := .int .i64 lo) rfl
  have q5 := BX0.cell0 (i := 5) (v := .int .i64 hi) rfl
  have q6 := BX0.cell0 (i := 6) (v := .slice an nn cn) rfl
  have q7 := BX0.cell0 (i := 7) (v := .slice al nl cl) rfl
  go_wp2_with fail
  clear q0 q1 q2 q3 q4 q5 q6 q7
  generalize w1.alloc (.cells #[.slice am nm cm, .int .i64 q, .int .i64 bx, .int .i64 cy, .int .i64 lo, .int .i64 hi, .slice an nn cn, .slice al nl cl] 28) = U1 at *
  obtain ⟨xb, hbk⟩ : ∃ b, w1.heap.size = b := ⟨_, rfl⟩
  rw [hbk] at BX0 ⊢
  clear hbk
  have HC := Lib.hid (impl_rr am nm cm zs q bx cy lo hi an nn cn ps al nl cl qs 0 (by omega) U1 HR_2.out H64.out HSUM.out)
  rw [hzero.1, hzero.2.1, hzero.2.2.1, hzero.2.2.2] at HC
  unfold AnsK at HC
  rw [show ((0 : Nat) : Int) = 0 from rfl] at HC
  clear hzero
  refine HC.out.mono ?_
  rintro e w2 ⟨aa, ca, rfl, ho, bl⟩
  clear HC
  have Ha0 := Lib.hid (own_hs ho)
  clear ho
  have b_3 := below_to b_1 bl
  have HR_4 := Lib.hid (HR_2.out.below bl)
  have BX_5 := BX0.to bl
  clear b_1 HR_2 BX0
  clear bl
  have bN := below_one w2 (.cells #[.slice aa qs.length ca, .int .i64 0, .bool false] 43)
  have Ba0 := blk_new w2 #[.slice aa qs.length ca, .int .i64 0, .bool false] 43 rfl
  have b_6 := below_to b_3 bN
  have HR_7 := Lib.hid (HR_4.out.below bN)
  have BX_8 := BX_5.to bN
  have Ha_9 := Lib.hid (Ha0.out.below bN)
  clear b_3 HR_4 BX_5 Ha0
  clear bN
  have q0 := BX_8.cell0 (i := 0) (v := .slice am nm cm) rfl
  have q1 := BX_8.cell0 (i := 1) (v := .int .i64 q) rfl
  have q2 := BX_8.cell0 (i := 2) (v := .int .i64 bx) rfl
  have q3 := BX_8.cell0 (i := 3) (v := .int .i64 cy) rfl
  have q4 := BX_8.cell0 (i := 4) (v := .int .i64 lo) rfl
  have q5 := BX_8.cell0 (i := 5) (v := .int .i64 hi) rfl
  have q6 := BX_8.cell0 (i := 6) (v := .slice an nn cn) rfl
  have q7 := BX_8.cell0 (i := 7) (v := .slice al nl cl) rfl
  go_wp2_with fail
  clear q0 q1 q2 q3 q4 q5 q6 q7
  generalize w2.alloc (.cells #[.slice aa qs.length ca, .int .i64 0, .bool false] 43) = U2 at *
  obtain ⟨ka, hbk⟩ : ∃ b, w2.heap.size = b := ⟨_, rfl⟩
  rw [hbk] at Ba0 ⊢
  clear hbk
  have HC := Lib.hid (impl_rr am nm cm zs q bx cy lo hi an nn cn ps al nl cl qs 1 (by omega) U2 HR_7.out H64.out HSUM.out)
  unfold AnsK at HC
  refine HC.out.mono ?_
  rintro e w3 ⟨ab, cb, rfl, ho, bl⟩
  clear HC
  have Hb0 := Lib.hid (own_hs ho)
  clear ho
  generalize hLb : rrL zs q bx cy lo hi ps qs 1 = Lb at *
  generalize hNb : (rrN zs q bx cy lo hi ps qs 1 : Int) = Nb at *
  generalize hSb : rrS zs q bx cy lo hi ps qs 1 = Sb at *
  generalize hfb : rrB zs q bx cy lo hi ps qs 1 = fb at *
  have b_10 := below_to b_6 bl
  have HR_11 := Lib.hid (HR_7.out.below bl)
  have BX_12 := BX_8.to bl
  have Ha_13 := Lib.hid (Ha_9.out.below bl)
  have Ba_14 := Ba0.to bl
  clear b_6 HR_7 BX_8 Ha_9 Ba0
  clear bl
  have bN := below_one w3 (.cells #[.slice ab Lb.length cb, .int .i64 Nb, .bool Sb] 43)
  have Bb0 := blk_new w3 #[.slice ab Lb.length cb, .int .i64 Nb, .bool Sb] 43 rfl
  have b_15 := below_to b_10 bN
  have HR_16 := Lib.hid (HR_11.out.below bN)
  have BX_17 := BX_12.to bN
  have Ha_18 := Lib.hid (Ha_13.out.below bN)
  have Ba_19 := Ba_14.to bN
  have Hb_20 := Lib.hid (Hb0.out.below bN)
  clear b_10 HR_11 BX_12 Ha_13 Ba_14 Hb0
  clear bN
  have q0 := BX_17.cell0 (i := 0) (v := .slice am nm cm) rfl
  have q1 := BX_17.cell0 (i := 1) (v := .int .i64 q) rfl
  have q2 := BX_17.cell0 (i := 2) (v := .int .i64 bx) rfl
  have q3 := BX_17.cell0 (i := 3) (v := .int .i64 cy) rfl
  have q4 := BX_17.cell0 (i := 4) (v := .int .i64 lo) rfl
  have q5 := BX_17.cell0 (i := 5) (v := .int .i64 hi) rfl
  have q6 := BX_17.cell0 (i := 6) (v := .slice an nn cn) rfl
  have q7 := BX_17.cell0 (i := 7) (v := .slice al nl cl) rfl
  go_wp2_with fail
  clear q0 q1 q2 q3 q4 q5 q6 q7
  generalize w3.alloc (.cells #[.slice ab Lb.length cb, .int .i64 Nb, .bool Sb] 43) = U3 at *
  obtain ⟨kb, hbk⟩ : ∃ b, w3.heap.size = b := ⟨_, rfl⟩
  rw [hbk] at Bb0 ⊢
  clear hbk
  have HC := Lib.hid (impl_rr am nm cm zs q bx cy lo hi an nn cn ps al nl cl qs 2 (by omega) U3 HR_16.out H64.out HSUM.out)
  unfold AnsK at HC
  refine HC.out.mono ?_
  rintro e w4 ⟨ac, cc, rfl, ho, bl⟩
  clear HC
  have Hc0 := Lib.hid (own_hs ho)
  clear ho
  generalize hLc : rrL zs q bx cy lo hi ps qs 2 = Lc at *
  generalize hNc : (rrN zs q bx cy lo hi ps qs 2 : Int) = Nc at *
  generalize hSc : rrS zs q bx cy lo hi ps qs 2 = Sc at *
  generalize hfc : rrB zs q bx cy lo hi ps qs 2 = fc at *
  have b_21 := below_to b_15 bl
  have HR_22 := Lib.hid (HR_16.out.below bl)
  have BX_23 := BX_17.to bl
  have Ha_24 := Lib.hid (Ha_18.out.below bl)
  have Ba_25 := Ba_19.to bl
  have Hb_26 := Lib.hid (Hb_20.out.below bl)
  have Bb_27 := Bb0.to bl
  clear b_15 HR_16 BX_17 Ha_18 Ba_19 Hb_20 Bb0
  clear bl
  have bN := below_one w4 (.cells #[.slice ac Lc.length cc, .int .i64 Nc, .bool Sc] 43)
  have Bc0 := blk_new w4 #[.slice ac Lc.length cc, .int .i64 Nc, .bool Sc] 43 rfl
  have b_28 := below_to b_21 bN
  have HR_29 := Lib.hid (HR_22.out.below bN)
  have BX_30 := BX_23.to bN
  have Ha_31 := Lib.hid (Ha_24.out.below bN)
  have Ba_32 := Ba_25.to bN
  have Hb_33 := Lib.hid (Hb_26.out.below bN)
  have Bb_34 := Bb_27.to bN
  have Hc_35 := Lib.hid (Hc0.out.below bN)
  clear b_21 HR_22 BX_23 Ha_24 Ba_25 Hb_26 Bb_27 Hc0
  clear bN
  have q0 := Ba_32.cell0 (i := 0) (v := .slice aa qs.length ca) rfl
  have q1 := BX_30.cell0 (i := 7) (v := .slice al nl cl) rfl
  go_wp2_with fail
  clear q0 q1
  generalize w4.alloc (.cells #[.slice ac Lc.length cc, .int .i64 Nc, .bool Sc] 43) = U4 at *
  obtain ⟨kc, hbk⟩ : ∃ b, w4.heap.size = b := ⟨_, rfl⟩
  rw [hbk] at Bc0 ⊢
  clear hbk
  have HSA := Lib.hid (impl_rsame aa al qs.length nl ca cl qs qs U4 rfl HLL.out (by have := HNL.out; have := HLL.out; omega) Ha_31.out HR_29.out.hl)
  rw [show sameB qs qs = true by unfold sameB; simp] at HSA
  refine HSA.out.mono ?_
  rintro e w5 ⟨rfl, bl⟩
  clear HSA
  have b_36 := below_to b_28 bl
  have HR_37 := Lib.hid (HR_29.out.below bl)
  have BX_38 := BX_30.to bl
  have Ha_39 := Lib.hid (Ha_31.out.below bl)
  have Ba_40 := Ba_32.to bl
  have Hb_41 := Lib.hid (Hb_33.out.below bl)
  have Bb_42 := Bb_34.to bl
  have Hc_43 := Lib.hid (Hc_35.out.below bl)
  have Bc_44 := Bc0.to bl
  clear b_28 HR_29 BX_30 Ha_31 Ba_32 Hb_33 Bb_34 Hc_35 Bc0
  clear bl
  cases fb with
  | false =>
    have q0 := BX_38.cell0 (i := 0) (v := .slice am nm cm) rfl
    have q1 := BX_38.cell0 (i := 1) (v := .int .i64 q) rfl
    have q2 := BX_38.cell0 (i := 2) (v := .int .i64 bx) rfl
    have q3 := BX_38.cell0 (i := 3) (v := .int .i64 cy) rfl
    have q4 := BX_38.cell0 (i := 4) (v := .int .i64 lo) rfl
    have q5 := BX_38.cell0 (i := 5) (v := .int .i64 hi) rfl
    have q6 := BX_38.cell0 (i := 6) (v := .slice an nn cn) rfl
    have q7 := BX_38.cell0 (i := 7) (v := .slice al nl cl) rfl
    have q8 := Ba_40.cell0 (i := 1) (v := .int .i64 0) rfl
    have q9 := Ba_40.cell0 (i := 2) (v := .bool false) rfl
    go_wp2_with fail
    clear q0 q1 q2 q3 q4 q5 q6 q7 q8 q9
    have HCK := Lib.hid (impl_ck am nm cm zs q bx cy lo hi an nn cn ps al nl cl qs 2000 0 1 ⟨⟨by simp, by simp⟩, ⟨by simp, by simp⟩, ⟨by simp, by simp⟩⟩ w5 HR_37.out H64.out HSUM.out)
    rw [ck_far] at HCK
    refine HCK.out.mono ?_
    rintro e w6 ⟨rfl, bl⟩
    go_wp2
    go_ret
    exact ⟨rfl, below_to b_36 bl⟩
  | true =>
    cases fc with
    | false =>
      have q0 := BX_38.cell0 (i := 0) (v := .slice am nm cm) rfl
      have q1 := BX_38.cell0 (i := 1) (v := .int .i64 q) rfl
      have q2 := BX_38.cell0 (i := 2) (v := .int .i64 bx) rfl
      have q3 := BX_38.cell0 (i := 3) (v := .int .i64 cy) rfl
      have q4 := BX_38.cell0 (i := 4) (v := .int .i64 lo) rfl
      have q5 := BX_38.cell0 (i := 5) (v := .int .i64 hi) rfl
      have q6 := BX_38.cell0 (i := 6) (v := .slice an nn cn) rfl
      have q7 := BX_38.cell0 (i := 7) (v := .slice al nl cl) rfl
      have q8 := Ba_40.cell0 (i := 1) (v := .int .i64 0) rfl
      have q9 := Ba_40.cell0 (i := 2) (v := .bool false) rfl
      go_wp2_with fail
      clear q0 q1 q2 q3 q4 q5 q6 q7 q8 q9
      have HCK := Lib.hid (impl_ck am nm cm zs q bx cy lo hi an nn cn ps al nl cl qs 2000 0 1 ⟨⟨by simp, by simp⟩, ⟨by simp, by simp⟩, ⟨by simp, by simp⟩⟩ w5 HR_37.out H64.out HSUM.out)
      rw [ck_far] at HCK
      refine HCK.out.mono ?_
      rintro e w6 ⟨rfl, bl⟩
      go_wp2
      go_ret
      exact ⟨rfl, below_to b_36 bl⟩
    | true =>
      obtain ⟨g1, g2, g3, g4, g5⟩ := rounds_facts hfb hfc
      have hgl := loss_facts hfb
      rw [hLb] at g1
      rw [hLb, hLc] at g2
      have g3' : Nc ≤ 2 := by omega
      rw [hSb, hSc] at g4
      rw [hLc, hSc] at g5
      rw [hLb] at hgl
      have h40b := rr_len (zs := zs) (q := q) (bx := bx) (cy := cy) (lo := lo) (hi := hi) (ps := ps) (qs := qs) 1
      rw [hLb] at h40b
      have h40c := rr_len (zs := zs) (q := q) (bx := bx) (cy := cy) (lo := lo) (hi := hi) (ps := ps) (qs := qs) 2
      rw [hLc] at h40c
      have HQR := Lib.hid (show qs.length ≤ 1048576 ∧ ∀ x ∈ qs, In64 x from ⟨by have := HNL.out; have := HLL.out; omega, H64.out.qs⟩)
      have G1 := Lib.hid g1
      have G2 := Lib.hid g2
      have G4 := Lib.hid g4
      have G5 := Lib.hid g5
      have HGL := Lib.hid hgl
      have H40b := Lib.hid (show Lb.length ≤ 40 ∧ ∀ x ∈ Lb, In64 x from ⟨h40b.1, h40b.2.1⟩)
      have H40c := Lib.hid (show Lc.length ≤ 40 ∧ ∀ x ∈ Lc, In64 x from ⟨h40c.1, h40c.2.1⟩)
      clear g1 g2 g3 g4 g5 hgl h40b h40c hLb hLc hNb hNc hSb hSc hfb hfc
      have q0 := BX_38.cell0 (i := 0) (v := .slice am nm cm) rfl
      have q1 := BX_38.cell0 (i := 1) (v := .int .i64 q) rfl
      have q2 := BX_38.cell0 (i := 2) (v := .int .i64 bx) rfl
      have q3 := BX_38.cell0 (i := 3) (v := .int .i64 cy) rfl
      have q4 := BX_38.cell0 (i := 4) (v := .int .i64 lo) rfl
      have q5 := BX_38.cell0 (i := 5) (v := .int .i64 hi) rfl
      have q6 := BX_38.cell0 (i := 6) (v := .slice an nn cn) rfl
      have q7 := BX_38.cell0 (i := 7) (v := .slice al nl cl) rfl
      have q8 := Ba_40.cell0 (i := 1) (v := .int .i64 0) rfl
      have q9 := Ba_40.cell0 (i := 2) (v := .bool false) rfl
      go_wp2_with fail
      clear q0 q1 q2 q3 q4 q5 q6 q7 q8 q9
      refine (impl_lo am nm cm zs q bx cy lo hi an nn cn ps al nl cl qs 0 (by omega) w5 HR_37.out H64.out HSUM.out).mono ?_
      rintro e w6 ⟨rfl, bl⟩
      generalize (loP zs q bx cy lo hi ps qs 0).1 = NN at *
      generalize (loP zs q bx cy lo hi ps qs 0).2 = DD at *
      generalize loB zs q bx cy lo hi ps qs 0 = fl at *
      have b_145 := below_to b_36 bl
      have HR_146 := Lib.hid (HR_37.out.below bl)
      have BX_147 := BX_38.to bl
      have Ha_148 := Lib.hid (Ha_39.out.below bl)
      have Ba_149 := Ba_40.to bl
      have Hb_150 := Lib.hid (Hb_41.out.below bl)
      have Bb_151 := Bb_42.to bl
      have Hc_152 := Lib.hid (Hc_43.out.below bl)
      have Bc_153 := Bc_44.to bl
      clear b_36 HR_37 BX_38 Ha_39 Ba_40 Hb_41 Bb_42 Hc_43 Bc_44
      clear bl
      have bN := below_one w6 (.cells #[.int .i64 NN, .int .i64 DD] 50)
      have Bl0 := blk_new w6 #[.int .i64 NN, .int .i64 DD] 50 rfl
      have b_154 := below_to b_145 bN
      have HR_155 := Lib.hid (HR_146.out.below bN)
      have BX_156 := BX_147.to bN
      have Ha_157 := Lib.hid (Ha_148.out.below bN)
      have Ba_158 := Ba_149.to bN
      have Hb_159 := Lib.hid (Hb_150.out.below bN)
      have Bb_160 := Bb_151.to bN
      have Hc_161 := Lib.hid (Hc_152.out.below bN)
      have Bc_162 := Bc_153.to bN
      clear b_145 HR_146 BX_147 Ha_148 Ba_149 Hb_150 Bb_151 Hc_152 Bc_153
      clear bN
      go_wp2_with fail
      generalize w6.alloc (.cells #[.int .i64 NN, .int .i64 DD] 50) = U6 at *
      obtain ⟨kl, hbk⟩ : ∃ b, w6.heap.size = b := ⟨_, rfl⟩
      rw [hbk] at Bl0 ⊢
      clear hbk
      have HW1 := Lib.hid (fun V (h1 : HsAt V ab Lb) (h2 : HsAt V aa qs) => impl_wi ab aa Lb.length qs.length cb ca Lb qs V rfl rfl (by have := H40b.out.1; omega) HQR.out.1 H40b.out.2 HQR.out.2 h1 h2)
      rw [G1.out] at HW1
      have HW2 := Lib.hid (fun V (h1 : HsAt V ac Lc) (h2 : HsAt V ab Lb) => impl_wi ac ab Lc.length Lb.length cc cb Lc Lb V rfl rfl (by have := H40c.out.1; omega) (by have := H40b.out.1; omega) H40c.out.2 H40b.out.2 h1 h2)
      rw [G2.out] at HW2
      have HSM := Lib.hid (fun V (h1 : HsAt V aa qs) (h2 : HsAt V ab Lb) => impl_rsame aa ab qs.length Lb.length ca cb qs Lb V rfl rfl HQR.out.1 h1 h2)
      have hn2 : decide (2 < Nc) = false := decide_eq_false (by omega)
      clear g3'
      go_cut [114] from 68 to 114 (fun s6 wx => s6 = .bool false ∧ Below U6.heap.size U6 wx)
      case first =>
        cases fl with
        | false =>
          cases Sb with
          | false =>
            refine wp_region_held_drew (S := (fun w' => w'.cell? ⟨ka, 0, none⟩ = some (.slice aa qs.length ca) ∧ w'.cell? ⟨kb, 0, none⟩ = some (.slice ab Lb.length cb) ∧ w'.cell? ⟨kb, 2, none⟩ = some (.bool false) ∧ w'.cell? ⟨kc, 0, none⟩ = some (.slice ac Lc.length cc) ∧ w'.cell? ⟨kc, 1, none⟩ = some (.int .i64 Nc) ∧ w'.cell? ⟨kc, 2, none⟩ = some (.bool Sc) ∧ w'.cell? ⟨kl, 0, none⟩ = some (.int .i64 NN))) (by kernel_rfl) ?_ (fun hHeld => ?_)
            · (refine rnd_keep Ba_158 Bb_160 Bc_162 Bl0 ?_; repeat (first | exact Below.refl _ _ | refine below_bx2 ?_ _ | refine below_drw ?_ | refine below_to ?_ (by assumption)))
            refine wpAnyH_take (i := 0) (oi := rnp0) (v := ?_) rfl (by as_aux_lemma => kernel_rfl) (by as_aux_lemma => kernel_rfl) (by as_aux_lemma => kernel_rfl) (fun _ _ _ h => h) (Or.inl ⟨by rfl, ?_⟩) (by assumption) ?_
            rotate_left
            · unfold rnp0; intro w hSw; (try dsimp only at hSw); go_simp; try (with_reducible rfl)
            try simp only [rnp0, Act.put, List.setIfInBounds_toArray, List.set_cons_zero, List.set_cons_succ]
            refine wpAnyH_take (i := 1) (oi := rnp1) (v := ?_) rfl (by as_aux_lemma => kernel_rfl) (by as_aux_lemma => kernel_rfl) (by as_aux_lemma => kernel_rfl) (fun _ _ _ h => h) (Or.inl ⟨by rfl, ?_⟩) (by assumption) ?_
            rotate_left
            · unfold rnp1; intro w hSw; (try dsimp only at hSw); go_simp; try (with_reducible rfl)
            try simp only [rnp1, Act.put, List.setIfInBounds_toArray, List.set_cons_zero, List.set_cons_succ]
            refine wpAnyH_take (i := 2) (oi := rnp2) (v := ?_) rfl (by as_aux_lemma => kernel_rfl) (by as_aux_lemma => kernel_rfl) (by as_aux_lemma => kernel_rfl) (fun _ _ _ h => h) (Or.inl ⟨by rfl, ?_⟩) (by assumption) ?_
            rotate_left
            · unfold rnp2; intro w hSw; (try dsimp only at hSw); go_simp; try (with_reducible rfl)
            try simp only [rnp2, Act.put, List.setIfInBounds_toArray, List.set_cons_zero, List.set_cons_succ]
            refine wpAnyH_take (i := 3) (oi := rnp3) (v := ?_) rfl (by as_aux_lemma => kernel_rfl) (by as_aux_lemma => kernel_rfl) (by as_aux_lemma => kernel_rfl) (fun _ _ _ h => h) (Or.inl ⟨by rfl, ?_⟩) (by assumption) ?_
            rotate_left
            · unfold rnp3; intro w hSw; (try dsimp only at hSw); go_simp; try (with_reducible rfl)
            try simp only [rnp3, Act.put, List.setIfInBounds_toArray, List.set_cons_zero, List.set_cons_succ]
            refine wpAnyH_ready (rs := [4]) (by as_aux_lemma => kernel_rfl) (by simp) ?_
            refine AllReadyH.cons (o := rnp4) rfl (fun K hK => ?_) AllReadyH.nil
            unfold rnp4
            go_simp
            (go_at_call 16; (with_reducible refine (HW1.out _ ?_ ?_).mono ?_); (focus ((refine Hb_159.out.below ?_); repeat (first | exact Below.refl _ _ | refine below_bx2 ?_ _ | refine below_drw ?_ | refine below_to ?_ (by assumption)))); (focus ((refine Ha_157.out.below ?_); repeat (first | exact Below.refl _ _ | refine below_bx2 ?_ _ | refine below_drw ?_ | refine below_to ?_ (by assumption)))); rintro e vv0 ⟨rfl, bw0⟩)
            try go_wp2_with fail
            refine hK.out _ _ ?_ (fun hHeld2 => ?_)
            · (refine rnd_keep Ba_158 Bb_160 Bc_162 Bl0 ?_; repeat (first | exact Below.refl _ _ | refine below_bx2 ?_ _ | refine below_drw ?_ | refine below_to ?_ (by assumption)))
            clear hK K hHeld
            have hHeld := hHeld2
            clear hHeld2
            try simp only [rnp4, Act.put, List.setIfInBounds_toArray, List.set_cons_zero, List.set_cons_succ]
            as_aux_lemma =>
             refine wpAnyH_take (i := 5) (oi := rnp5) (v := ?_) rfl (by as_aux_lemma => kernel_rfl) (by as_aux_lemma => kernel_rfl) (by as_aux_lemma => kernel_rfl) (fun _ _ _ h => h) (Or.inl ⟨by rfl, ?_⟩) (by assumption) ?_
             rotate_left
             · unfold rnp5; intro w hSw; (try dsimp only at hSw); go_simp; try (with_reducible rfl)
             try simp only [rnp5, Act.put, List.setIfInBounds_toArray, List.set_cons_zero, List.set_cons_succ]
             refine wpAnyH_take (i := 6) (oi := rnp6) (v := ?_) rfl (by as_aux_lemma => kernel_rfl) (by as_aux_lemma => kernel_rfl) (by as_aux_lemma => kernel_rfl) (fun _ _ _ h => h) (Or.inl ⟨by rfl, ?_⟩) (by assumption) ?_
             rotate_left
             · unfold rnp6; intro w hSw; (try dsimp only at hSw); go_simp; try (with_reducible rfl)
             try simp only [rnp6, Act.put, List.setIfInBounds_toArray, List.set_cons_zero, List.set_cons_succ]
             refine wpAnyH_take (i := 7) (oi := rnp7) (v := ?_) rfl (by as_aux_lemma => kernel_rfl) (by as_aux_lemma => kernel_rfl) (by as_aux_lemma => kernel_rfl) (fun _ _ _ h => h) (Or.inl ⟨by rfl, ?_⟩) (by assumption) ?_
             rotate_left
             · unfold rnp7; intro w hSw; (try dsimp only at hSw); go_simp; try (with_reducible rfl)
             try simp only [rnp7, Act.put, List.setIfInBounds_toArray, List.set_cons_zero, List.set_cons_succ]
             refine wpAnyH_take (i := 8) (oi := rnp8) (v := ?_) rfl (by as_aux_lemma => kernel_rfl) (by as_aux_lemma => kernel_rfl) (by as_aux_lemma => kernel_rfl) (fun _ _ _ h => h) (Or.inl ⟨by rfl, ?_⟩) (by assumption) ?_
             rotate_left
             · unfold rnp8; intro w hSw; (try dsimp only at hSw); go_simp; try (with_reducible rfl)
             try simp only [rnp8, Act.put, List.setIfInBounds_toArray, List.set_cons_zero, List.set_cons_succ]
             refine wpAnyH_take (i := 9) (oi := rnp9) (v := ?_) rfl (by as_aux_lemma => kernel_rfl) (by as_aux_lemma => kernel_rfl) (by as_aux_lemma => kernel_rfl) (fun _ _ _ h => h) (Or.inl ⟨by rfl, ?_⟩) (by assumption) ?_
             rotate_left
             · unfold rnp9; intro w hSw; (try dsimp only at hSw); go_simp; try (with_reducible rfl)
             try simp only [rnp9, Act.put, List.setIfInBounds_toArray, List.set_cons_zero, List.set_cons_succ]
             refine wpAnyH_take (i := 10) (oi := rnp10) (v := ?_) rfl (by as_aux_lemma => kernel_rfl) (by as_aux_lemma => kernel_rfl) (by as_aux_lemma => kernel_rfl) (fun _ _ _ h => h) (Or.inl ⟨by rfl, ?_⟩) (by assumption) ?_
             rotate_left
             · unfold rnp10; intro w hSw; (try dsimp only at hSw); go_simp; try (with_reducible rfl)
             try simp only [rnp10, Act.put, List.setIfInBounds_toArray, List.set_cons_zero, List.set_cons_succ]
             refine wpAnyH_ready (rs := [11]) (by as_aux_lemma => kernel_rfl) (by simp) ?_
             refine AllReadyH.cons (o := rnp11) rfl (fun K hK => ?_) AllReadyH.nil
             unfold rnp11
             go_simp
             (go_at_call 16; (with_reducible refine (HW2.out _ ?_ ?_).mono ?_); (focus ((refine Hc_161.out.below ?_); repeat (first | exact Below.refl _ _ | refine below_bx2 ?_ _ | refine below_drw ?_ | refine below_to ?_ (by assumption)))); (focus ((refine Hb_159.out.below ?_); repeat (first | exact Below.refl _ _ | refine below_bx2 ?_ _ | refine below_drw ?_ | refine below_to ?_ (by assumption)))); rintro e vv1 ⟨rfl, bw1⟩)
             try go_wp2_with fail
             refine hK.out _ _ ?_ (fun hHeld2 => ?_)
             · (refine rnd_keep Ba_158 Bb_160 Bc_162 Bl0 ?_; repeat (first | exact Below.refl _ _ | refine below_bx2 ?_ _ | refine below_drw ?_ | refine below_to ?_ (by assumption)))
             clear hK K hHeld
             have hHeld := hHeld2
             clear hHeld2
             try simp only [rnp11, Act.put, List.setIfInBounds_toArray, List.set_cons_zero, List.set_cons_succ]
             as_aux_lemma =>
              refine wpAnyH_take (i := 12) (oi := rnp12) (v := ?_) rfl (by as_aux_lemma => kernel_rfl) (by as_aux_lemma => kernel_rfl) (by as_aux_lemma => kernel_rfl) (fun _ _ _ h => h) (Or.inl ⟨by rfl, ?_⟩) (by assumption) ?_
              rotate_left
              · unfold rnp12; intro w hSw; (try dsimp only at hSw); go_simp; try (with_reducible rfl)
              try simp only [rnp12, Act.put, List.setIfInBounds_toArray, List.set_cons_zero, List.set_cons_succ]
              refine wpAnyH_take (i := 13) (oi := rnp13) (v := ?_) rfl (by as_aux_lemma => kernel_rfl) (by as_aux_lemma => kernel_rfl) (by as_aux_lemma => kernel_rfl) (fun _ _ _ h => h) (Or.inl ⟨by rfl, ?_⟩) (by assumption) ?_
              rotate_left
              · unfold rnp13; intro w hSw; (try dsimp only at hSw); go_simp; try (with_reducible rfl)
              try simp only [rnp13, Act.put, List.setIfInBounds_toArray, List.set_cons_zero, List.set_cons_succ]
              refine wpAnyH_take (i := 14) (oi := rnp14) (v := ?_) rfl (by as_aux_lemma => kernel_rfl) (by as_aux_lemma => kernel_rfl) (by as_aux_lemma => kernel_rfl) (fun _ _ _ h => h) (Or.inl ⟨by rfl, ?_⟩) (by assumption) ?_
              rotate_left
              · unfold rnp14; intro w hSw; (try dsimp only at hSw); go_simp; try (with_reducible rfl)
              try simp only [rnp14, Act.put, List.setIfInBounds_toArray, List.set_cons_zero, List.set_cons_succ]
              refine wpAnyH_take (i := 15) (oi := rnp15) (v := ?_) rfl (by as_aux_lemma => kernel_rfl) (by as_aux_lemma => kernel_rfl) (by as_aux_lemma => kernel_rfl) (fun _ _ _ h => h) (Or.inl ⟨by rfl, ?_⟩) (by assumption) ?_
              rotate_left
              · unfold rnp15; intro w hSw; (try dsimp only at hSw); go_simp; try (with_reducible rfl)
              try simp only [rnp15, Act.put, List.setIfInBounds_toArray, List.set_cons_zero, List.set_cons_succ]
              refine wpAnyH_take (i := 16) (oi := rnp16) (v := ?_) rfl (by as_aux_lemma => kernel_rfl) (by as_aux_lemma => kernel_rfl) (by as_aux_lemma => kernel_rfl) (fun _ _ _ h => h) (Or.inl ⟨by rfl, ?_⟩) (by assumption) ?_
              rotate_left
              · unfold rnp16; intro w hSw; (try dsimp only at hSw); go_simp; try (with_reducible rfl)
              try simp only [rnp16, Act.put, List.setIfInBounds_toArray, List.set_cons_zero, List.set_cons_succ]
              refine wpAnyH_take (i := 17) (oi := rnp17) (v := ?_) rfl (by as_aux_lemma => kernel_rfl) (by as_aux_lemma => kernel_rfl) (by as_aux_lemma => kernel_rfl) (fun _ _ _ h => h) (Or.inl ⟨by rfl, ?_⟩) (by assumption) ?_
              rotate_left
              · unfold rnp17; intro w hSw; (try dsimp only at hSw); go_simp; try (with_reducible rfl)
              try simp only [rnp17, Act.put, List.setIfInBounds_toArray, List.set_cons_zero, List.set_cons_succ]
              refine wpAnyH_take (i := 18) (oi := rnp18) (v := ?_) rfl (by as_aux_lemma => kernel_rfl) (by as_aux_lemma => kernel_rfl) (by as_aux_lemma => kernel_rfl) (fun _ _ _ h => h) (Or.inl ⟨by rfl, ?_⟩) (by assumption) ?_
              rotate_left
              · unfold rnp18; intro w hSw; (try dsimp only at hSw); go_simp; try (with_reducible rfl)
              try simp only [rnp18, Act.put, List.setIfInBounds_toArray, List.set_cons_zero, List.set_cons_succ]
              refine wpAnyH_take (i := 19) (oi := rnp19) (v := ?_) rfl (by as_aux_lemma => kernel_rfl) (by as_aux_lemma => kernel_rfl) (by as_aux_lemma => kernel_rfl) (fun _ _ _ h => h) (Or.inl ⟨by rfl, ?_⟩) (by assumption) ?_
              rotate_left
              · unfold rnp19; intro w hSw; (try dsimp only at hSw); go_simp; try (with_reducible rfl)
              try simp only [rnp19, Act.put, List.setIfInBounds_toArray, List.set_cons_zero, List.set_cons_succ]
              refine wpAnyH_take (i := 20) (oi := rnp20) (v := ?_) rfl (by as_aux_lemma => kernel_rfl) (by as_aux_lemma => kernel_rfl) (by as_aux_lemma => kernel_rfl) (fun _ _ _ h => h) (Or.inl ⟨by rfl, ?_⟩) (by assumption) ?_
              rotate_left
              · unfold rnp20; intro w hSw; (try dsimp only at hSw); go_simp; try (with_reducible rfl)
              try simp only [rnp20, Act.put, List.setIfInBounds_toArray, List.set_cons_zero, List.set_cons_succ]
              refine wpAnyH_take (i := 21) (oi := rnp21) (v := ?_) rfl (by as_aux_lemma => kernel_rfl) (by as_aux_lemma => kernel_rfl) (by as_aux_lemma => kernel_rfl) (fun _ _ _ h => h) (Or.inl ⟨by rfl, ?_⟩) (by assumption) ?_
              rotate_left
              · unfold rnp21; intro w hSw; (try dsimp only at hSw); go_simp; try (with_reducible rfl)
              try simp only [rnp21, Act.put, List.setIfInBounds_toArray, List.set_cons_zero, List.set_cons_succ]
              refine wpAnyH_take (i := 22) (oi := rnp22) (v := ?_) rfl (by as_aux_lemma => kernel_rfl) (by as_aux_lemma => kernel_rfl) (by as_aux_lemma => kernel_rfl) (fun _ _ _ h => h) (Or.inl ⟨by rfl, ?_⟩) (by assumption) ?_
              rotate_left
              · unfold rnp22; intro w hSw; (try dsimp only at hSw); go_simp; try (with_reducible rfl)
              try simp only [rnp22, Act.put, List.setIfInBounds_toArray, List.set_cons_zero, List.set_cons_succ]
              refine wpAnyH_take (i := 23) (oi := rnp23) (v := undef) rfl (by as_aux_lemma => kernel_rfl) (by as_aux_lemma => kernel_rfl) (by as_aux_lemma => kernel_rfl) (fun _ _ _ h => h) (Or.inr ⟨by rfl, rfl⟩) (by assumption) ?_
              try simp only [rnp23, Act.put, List.setIfInBounds_toArray, List.set_cons_zero, List.set_cons_succ]
              refine wpAnyH_take (i := 24) (oi := rnp24) (v := undef) rfl (by as_aux_lemma => kernel_rfl) (by as_aux_lemma => kernel_rfl) (by as_aux_lemma => kernel_rfl) (fun _ _ _ h => h) (Or.inr ⟨by rfl, rfl⟩) (by assumption) ?_
              try simp only [rnp24, Act.put, List.setIfInBounds_toArray, List.set_cons_zero, List.set_cons_succ]
              refine wpAnyH_take (i := 25) (oi := rnp25) (v := undef) rfl (by as_aux_lemma => kernel_rfl) (by as_aux_lemma => kernel_rfl) (by as_aux_lemma => kernel_rfl) (fun _ _ _ h => h) (Or.inr ⟨by rfl, rfl⟩) (by assumption) ?_
              try simp only [rnp25, Act.put, List.setIfInBounds_toArray, List.set_cons_zero, List.set_cons_succ]
              refine wpAnyH_take (i := 26) (oi := rnp26) (v := ?_) rfl (by as_aux_lemma => kernel_rfl) (by as_aux_lemma => kernel_rfl) (by as_aux_lemma => kernel_rfl) (fun _ _ _ h => h) (Or.inl ⟨by rfl, ?_⟩) (by assumption) ?_
              rotate_left
              · unfold rnp26; intro w hSw; (try dsimp only at hSw); go_simp; try (with_reducible rfl)
              try simp only [rnp26, Act.put, List.setIfInBounds_toArray, List.set_cons_zero, List.set_cons_succ]
              as_aux_lemma =>
               refine wpAnyH_take (i := 27) (oi := rnp27) (v := ?_) rfl (by as_aux_lemma => kernel_rfl) (by as_aux_lemma => kernel_rfl) (by as_aux_lemma => kernel_rfl) (fun _ _ _ h => h) (Or.inl ⟨by rfl, ?_⟩) (by assumption) ?_
               rotate_left
               · unfold rnp27; intro w hSw; (try dsimp only at hSw); go_simp; try (with_reducible rfl)
               try simp only [rnp27, Act.put, List.setIfInBounds_toArray, List.set_cons_zero, List.set_cons_succ]
               refine wpAnyH_take (i := 28) (oi := rnp28) (v := ?_) rfl (by as_aux_lemma => kernel_rfl) (by as_aux_lemma => kernel_rfl) (by as_aux_lemma => kernel_rfl) (fun _ _ _ h => h) (Or.inl ⟨by rfl, ?_⟩) (by assumption) ?_
               rotate_left
               · unfold rnp28; intro w hSw; (try dsimp only at hSw); go_simp; try (with_reducible rfl)
               try simp only [rnp28, Act.put, List.setIfInBounds_toArray, List.set_cons_zero, List.set_cons_succ]
               refine wpAnyH_take (i := 29) (oi := rnp29) (v := ?_) rfl (by as_aux_lemma => kernel_rfl) (by as_aux_lemma => kernel_rfl) (by as_aux_lemma => kernel_rfl) (fun _ _ _ h => h) (Or.inl ⟨by rfl, ?_⟩) (by assumption) ?_
               rotate_left
               · unfold rnp29; intro w hSw; (try dsimp only at hSw); go_simp; try (with_reducible rfl)
               try simp only [rnp29, Act.put, List.setIfInBounds_toArray, List.set_cons_zero, List.set_cons_succ]
               refine wpAnyH_take (i := 30) (oi := rnp30) (v := ?_) rfl (by as_aux_lemma => kernel_rfl) (by as_aux_lemma => kernel_rfl) (by as_aux_lemma => kernel_rfl) (fun _ _ _ h => h) (Or.inl ⟨by rfl, ?_⟩) (by assumption) ?_
               rotate_left
               · unfold rnp30; intro w hSw; (try dsimp only at hSw); go_simp; try (with_reducible rfl)
               try simp only [rnp30, Act.put, List.setIfInBounds_toArray, List.set_cons_zero, List.set_cons_succ]
               refine wpAnyH_take (i := 31) (oi := rnp31) (v := undef) rfl (by as_aux_lemma => kernel_rfl) (by as_aux_lemma => kernel_rfl) (by as_aux_lemma => kernel_rfl) (fun _ _ _ h => h) (Or.inr ⟨by rfl, rfl⟩) (by assumption) ?_
               try simp only [rnp31, Act.put, List.setIfInBounds_toArray, List.set_cons_zero, List.set_cons_succ]
               refine wpAnyH_take (i := 32) (oi := rnp32) (v := undef) rfl (by as_aux_lemma => kernel_rfl) (by as_aux_lemma => kernel_rfl) (by as_aux_lemma => kernel_rfl) (fun _ _ _ h => h) (Or.inr ⟨by rfl, rfl⟩) (by assumption) ?_
               try simp only [rnp32, Act.put, List.setIfInBounds_toArray, List.set_cons_zero, List.set_cons_succ]
               refine wpAnyH_take (i := 33) (oi := rnp33) (v := undef) rfl (by as_aux_lemma => kernel_rfl) (by as_aux_lemma => kernel_rfl) (by as_aux_lemma => kernel_rfl) (fun _ _ _ h => h) (Or.inr ⟨by rfl, rfl⟩) (by assumption) ?_
               try simp only [rnp33, Act.put, List.setIfInBounds_toArray, List.set_cons_zero, List.set_cons_succ]
               refine wpAnyH_take (i := 34) (oi := rnp34) (v := undef) rfl (by as_aux_lemma => kernel_rfl) (by as_aux_lemma => kernel_rfl) (by as_aux_lemma => kernel_rfl) (fun _ _ _ h => h) (Or.inr ⟨by rfl, rfl⟩) (by assumption) ?_
               try simp only [rnp34, Act.put, List.setIfInBounds_toArray, List.set_cons_zero, List.set_cons_succ]
               refine wpAnyH_take (i := 35) (oi := rnp35) (v := undef) rfl (by as_aux_lemma => kernel_rfl) (by as_aux_lemma => kernel_rfl) (by as_aux_lemma => kernel_rfl) (fun _ _ _ h => h) (Or.inr ⟨by rfl, rfl⟩) (by assumption) ?_
               try simp only [rnp35, Act.put, List.setIfInBounds_toArray, List.set_cons_zero, List.set_cons_succ]
               refine wpAnyH_take (i := 36) (oi := rnp36) (v := undef) rfl (by as_aux_lemma => kernel_rfl) (by as_aux_lemma => kernel_rfl) (by as_aux_lemma => kernel_rfl) (fun _ _ _ h => h) (Or.inr ⟨by rfl, rfl⟩) (by assumption) ?_
               try simp only [rnp36, Act.put, List.setIfInBounds_toArray, List.set_cons_zero, List.set_cons_succ]
               refine wpAnyH_take (i := 37) (oi := rnp37) (v := undef) rfl (by as_aux_lemma => kernel_rfl) (by as_aux_lemma => kernel_rfl) (by as_aux_lemma => kernel_rfl) (fun _ _ _ h => h) (Or.inr ⟨by rfl, rfl⟩) (by assumption) ?_
               try simp only [rnp37, Act.put, List.setIfInBounds_toArray, List.set_cons_zero, List.set_cons_succ]
               refine wpAnyH_take (i := 38) (oi := rnp38) (v := undef) rfl (by as_aux_lemma => kernel_rfl) (by as_aux_lemma => kernel_rfl) (by as_aux_lemma => kernel_rfl) (fun _ _ _ h => h) (Or.inr ⟨by rfl, rfl⟩) (by assumption) ?_
               try simp only [rnp38, Act.put, List.setIfInBounds_toArray, List.set_cons_zero, List.set_cons_succ]
               refine wpAnyH_take (i := 39) (oi := rnp39) (v := undef) rfl (by as_aux_lemma => kernel_rfl) (by as_aux_lemma => kernel_rfl) (by as_aux_lemma => kernel_rfl) (fun _ _ _ h => h) (Or.inr ⟨by rfl, rfl⟩) (by assumption) ?_
               try simp only [rnp39, Act.put, List.setIfInBounds_toArray, List.set_cons_zero, List.set_cons_succ]
               refine wpAnyH_take (i := 40) (oi := rnp40) (v := undef) rfl (by as_aux_lemma => kernel_rfl) (by as_aux_lemma => kernel_rfl) (by as_aux_lemma => kernel_rfl) (fun _ _ _ h => h) (Or.inr ⟨by rfl, rfl⟩) (by assumption) ?_
               try simp only [rnp40, Act.put, List.setIfInBounds_toArray, List.set_cons_zero, List.set_cons_succ]
               refine wpAnyH_take (i := 41) (oi := rnp41) (v := undef) rfl (by as_aux_lemma => kernel_rfl) (by as_aux_lemma => kernel_rfl) (by as_aux_lemma => kernel_rfl) (fun _ _ _ h => h) (Or.inr ⟨by rfl, rfl⟩) (by assumption) ?_
               try simp only [rnp41, Act.put, List.setIfInBounds_toArray, List.set_cons_zero, List.set_cons_succ]
               refine wpAnyH_take (i := 42) (oi := rnp42) (v := undef) rfl (by as_aux_lemma => kernel_rfl) (by as_aux_lemma => kernel_rfl) (by as_aux_lemma => kernel_rfl) (fun _ _ _ h => h) (Or.inr ⟨by rfl, rfl⟩) (by assumption) ?_
               try simp only [rnp42, Act.put, List.setIfInBounds_toArray, List.set_cons_zero, List.set_cons_succ]
               refine wpAnyH_take (i := 43) (oi := rnp43) (v := undef) rfl (by as_aux_lemma => kernel_rfl) (by as_aux_lemma => kernel_rfl) (by as_aux_lemma => kernel_rfl) (fun _ _ _ h => h) (Or.inr ⟨by rfl, rfl⟩) (by assumption) ?_
               try simp only [rnp43, Act.put, List.setIfInBounds_toArray, List.set_cons_zero, List.set_cons_succ]
               refine wpAnyH_take (i := 44) (oi := rnp44) (v := undef) rfl (by as_aux_lemma => kernel_rfl) (by as_aux_lemma => kernel_rfl) (by as_aux_lemma => kernel_rfl) (fun _ _ _ h => h) (Or.inr ⟨by rfl, rfl⟩) (by assumption) ?_
               try simp only [rnp44, Act.put, List.setIfInBounds_toArray, List.set_cons_zero, List.set_cons_succ]
               refine wpAnyH_take (i := 45) (oi := rnp45) (v := ?_) rfl (by as_aux_lemma => kernel_rfl) (by as_aux_lemma => kernel_rfl) (by as_aux_lemma => kernel_rfl) (fun _ _ _ h => h) (Or.inl ⟨by rfl, ?_⟩) (by assumption) ?_
               rotate_left
               · unfold rnp45; intro w hSw; (try dsimp only at hSw); go_simp; try (with_reducible rfl)
               try simp only [rnp45, Act.put, List.setIfInBounds_toArray, List.set_cons_zero, List.set_cons_succ]
               refine wpAnyH_take (i := 46) (oi := rnp46) (v := ?_) rfl (by as_aux_lemma => kernel_rfl) (by as_aux_lemma => kernel_rfl) (by as_aux_lemma => kernel_rfl) (fun _ _ _ h => h) (Or.inl ⟨by rfl, ?_⟩) (by assumption) ?_
               rotate_left
               · unfold rnp46; intro w hSw; (try dsimp only at hSw); go_simp; try (with_reducible rfl)
               try simp only [rnp46, Act.put, List.setIfInBounds_toArray, List.set_cons_zero, List.set_cons_succ]
               refine wpAnyH_done (by kernel_rfl) ?_ _
               go_wp2_with fail
               go_meet
               refine ⟨rfl, ?_⟩
               repeat (first | exact Below.refl _ _ | refine below_bx2 ?_ _ | refine below_drw ?_ | refine below_to ?_ (by assumption))
          | true =>
            obtain rfl : Sc = true := G4.out rfl
            refine wp_region_held_drew (S := (fun w' => w'.cell? ⟨ka, 0, none⟩ = some (.slice aa qs.length ca) ∧ w'.cell? ⟨kb, 0, none⟩ = some (.slice ab Lb.length cb) ∧ w'.cell? ⟨kb, 2, none⟩ = some (.bool true) ∧ w'.cell? ⟨kc, 0, none⟩ = some (.slice ac Lc.length cc) ∧ w'.cell? ⟨kc, 1, none⟩ = some (.int .i64 Nc) ∧ w'.cell? ⟨kc, 2, none⟩ = some (.bool true) ∧ w'.cell? ⟨kl, 0, none⟩ = some (.int .i64 NN))) (by kernel_rfl) ?_ (fun hHeld => ?_)
            · (refine rnd_keep Ba_158 Bb_160 Bc_162 Bl0 ?_; repeat (first | exact Below.refl _ _ | refine below_bx2 ?_ _ | refine below_drw ?_ | refine below_to ?_ (by assumption)))
            refine wpAnyH_take (i := 0) (oi := rnp0) (v := ?_) rfl (by as_aux_lemma => kernel_rfl) (by as_aux_lemma => kernel_rfl) (by as_aux_lemma => kernel_rfl) (fun _ _ _ h => h) (Or.inl ⟨by rfl, ?_⟩) (by assumption) ?_
            rotate_left
            · unfold rnp0; intro w hSw; (try dsimp only at hSw); go_simp; try (with_reducible rfl)
            try simp only [rnp0, Act.put, List.setIfInBounds_toArray, List.set_cons_zero, List.set_cons_succ]
            refine wpAnyH_take (i := 1) (oi := rnp1) (v := ?_) rfl (by as_aux_lemma => kernel_rfl) (by as_aux_lemma => kernel_rfl) (by as_aux_lemma => kernel_rfl) (fun _ _ _ h => h) (Or.inl ⟨by rfl, ?_⟩) (by assumption) ?_
            rotate_left
            · unfold rnp1; intro w hSw; (try dsimp only at hSw); go_simp; try (with_reducible rfl)
            try simp only [rnp1, Act.put, List.setIfInBounds_toArray, List.set_cons_zero, List.set_cons_succ]
            refine wpAnyH_take (i := 2) (oi := rnp2) (v := ?_) rfl (by as_aux_lemma => kernel_rfl) (by as_aux_lemma => kernel_rfl) (by as_aux_lemma => kernel_rfl) (fun _ _ _ h => h) (Or.inl ⟨by rfl, ?_⟩) (by assumption) ?_
            rotate_left
            · unfold rnp2; intro w hSw; (try dsimp only at hSw); go_simp; try (with_reducible rfl)
            try simp only [rnp2, Act.put, List.setIfInBounds_toArray, List.set_cons_zero, List.set_cons_succ]
            refine wpAnyH_take (i := 3) (oi := rnp3) (v := ?_) rfl (by as_aux_lemma => kernel_rfl) (by as_aux_lemma => kernel_rfl) (by as_aux_lemma => kernel_rfl) (fun _ _ _ h => h) (Or.inl ⟨by rfl, ?_⟩) (by assumption) ?_
            rotate_left
            · unfold rnp3; intro w hSw; (try dsimp only at hSw); go_simp; try (with_reducible rfl)
            try simp only [rnp3, Act.put, List.setIfInBounds_toArray, List.set_cons_zero, List.set_cons_succ]
            refine wpAnyH_ready (rs := [4]) (by as_aux_lemma => kernel_rfl) (by simp) ?_
            refine AllReadyH.cons (o := rnp4) rfl (fun K hK => ?_) AllReadyH.nil
            unfold rnp4
            go_simp
            (go_at_call 16; (with_reducible refine (HW1.out _ ?_ ?_).mono ?_); (focus ((refine Hb_159.out.below ?_); repeat (first | exact Below.refl _ _ | refine below_bx2 ?_ _ | refine below_drw ?_ | refine below_to ?_ (by assumption)))); (focus ((refine Ha_157.out.below ?_); repeat (first | exact Below.refl _ _ | refine below_bx2 ?_ _ | refine below_drw ?_ | refine below_to ?_ (by assumption)))); rintro e vv0 ⟨rfl, bw0⟩)
            try go_wp2_with fail
            refine hK.out _ _ ?_ (fun hHeld2 => ?_)
            · (refine rnd_keep Ba_158 Bb_160 Bc_162 Bl0 ?_; repeat (first | exact Below.refl _ _ | refine below_bx2 ?_ _ | refine below_drw ?_ | refine below_to ?_ (by assumption)))
            clear hK K hHeld
            have hHeld := hHeld2
            clear hHeld2
            try simp only [rnp4, Act.put, List.setIfInBounds_toArray, List.set_cons_zero, List.set_cons_succ]
            as_aux_lemma =>
             refine wpAnyH_take (i := 5) (oi := rnp5) (v := ?_) rfl (by as_aux_lemma => kernel_rfl) (by as_aux_lemma => kernel_rfl) (by as_aux_lemma => kernel_rfl) (fun _ _ _ h => h) (Or.inl ⟨by rfl, ?_⟩) (by assumption) ?_
             rotate_left
             · unfold rnp5; intro w hSw; (try dsimp only at hSw); go_simp; try (with_reducible rfl)
             try simp only [rnp5, Act.put, List.setIfInBounds_toArray, List.set_cons_zero, List.set_cons_succ]
             refine wpAnyH_take (i := 6) (oi := rnp6) (v := ?_) rfl (by as_aux_lemma => kernel_rfl) (by as_aux_lemma => kernel_rfl) (by as_aux_lemma => kernel_rfl) (fun _ _ _ h => h) (Or.inl ⟨by rfl, ?_⟩) (by assumption) ?_
             rotate_left
             · unfold rnp6; intro w hSw; (try dsimp only at hSw); go_simp; try (with_reducible rfl)
             try simp only [rnp6, Act.put, List.setIfInBounds_toArray, List.set_cons_zero, List.set_cons_succ]
             refine wpAnyH_take (i := 7) (oi := rnp7) (v := ?_) rfl (by as_aux_lemma => kernel_rfl) (by as_aux_lemma => kernel_rfl) (by as_aux_lemma => kernel_rfl) (fun _ _ _ h => h) (Or.inl ⟨by rfl, ?_⟩) (by assumption) ?_
             rotate_left
             · unfold rnp7; intro w hSw; (try dsimp only at hSw); go_simp; try (with_reducible rfl)
             try simp only [rnp7, Act.put, List.setIfInBounds_toArray, List.set_cons_zero, List.set_cons_succ]
             refine wpAnyH_take (i := 8) (oi := rnp8) (v := ?_) rfl (by as_aux_lemma => kernel_rfl) (by as_aux_lemma => kernel_rfl) (by as_aux_lemma => kernel_rfl) (fun _ _ _ h => h) (Or.inl ⟨by rfl, ?_⟩) (by assumption) ?_
             rotate_left
             · unfold rnp8; intro w hSw; (try dsimp only at hSw); go_simp; try (with_reducible rfl)
             try simp only [rnp8, Act.put, List.setIfInBounds_toArray, List.set_cons_zero, List.set_cons_succ]
             refine wpAnyH_take (i := 9) (oi := rnp9) (v := ?_) rfl (by as_aux_lemma => kernel_rfl) (by as_aux_lemma => kernel_rfl) (by as_aux_lemma => kernel_rfl) (fun _ _ _ h => h) (Or.inl ⟨by rfl, ?_⟩) (by assumption) ?_
             rotate_left
             · unfold rnp9; intro w hSw; (try dsimp only at hSw); go_simp; try (with_reducible rfl)
             try simp only [rnp9, Act.put, List.setIfInBounds_toArray, List.set_cons_zero, List.set_cons_succ]
             refine wpAnyH_take (i := 10) (oi := rnp10) (v := ?_) rfl (by as_aux_lemma => kernel_rfl) (by as_aux_lemma => kernel_rfl) (by as_aux_lemma => kernel_rfl) (fun _ _ _ h => h) (Or.inl ⟨by rfl, ?_⟩) (by assumption) ?_
             rotate_left
             · unfold rnp10; intro w hSw; (try dsimp only at hSw); go_simp; try (with_reducible rfl)
             try simp only [rnp10, Act.put, List.setIfInBounds_toArray, List.set_cons_zero, List.set_cons_succ]
             refine wpAnyH_ready (rs := [11]) (by as_aux_lemma => kernel_rfl) (by simp) ?_
             refine AllReadyH.cons (o := rnp11) rfl (fun K hK => ?_) AllReadyH.nil
             unfold rnp11
             go_simp
             (go_at_call 16; (with_reducible refine (HW2.out _ ?_ ?_).mono ?_); (focus ((refine Hc_161.out.below ?_); repeat (first | exact Below.refl _ _ | refine below_bx2 ?_ _ | refine below_drw ?_ | refine below_to ?_ (by assumption)))); (focus ((refine Hb_159.out.below ?_); repeat (first | exact Below.refl _ _ | refine below_bx2 ?_ _ | refine below_drw ?_ | refine below_to ?_ (by assumption)))); rintro e vv1 ⟨rfl, bw1⟩)
             try go_wp2_with fail
             refine hK.out _ _ ?_ (fun hHeld2 => ?_)
             · (refine rnd_keep Ba_158 Bb_160 Bc_162 Bl0 ?_; repeat (first | exact Below.refl _ _ | refine below_bx2 ?_ _ | refine below_drw ?_ | refine below_to ?_ (by assumption)))
             clear hK K hHeld
             have hHeld := hHeld2
             clear hHeld2
             try simp only [rnp11, Act.put, List.setIfInBounds_toArray, List.set_cons_zero, List.set_cons_succ]
             as_aux_lemma =>
              refine wpAnyH_take (i := 12) (oi := rnp12) (v := ?_) rfl (by as_aux_lemma => kernel_rfl) (by as_aux_lemma => kernel_rfl) (by as_aux_lemma => kernel_rfl) (fun _ _ _ h => h) (Or.inl ⟨by rfl, ?_⟩) (by assumption) ?_
              rotate_left
              · unfold rnp12; intro w hSw; (try dsimp only at hSw); go_simp; try (with_reducible rfl)
              try simp only [rnp12, Act.put, List.setIfInBounds_toArray, List.set_cons_zero, List.set_cons_succ]
              refine wpAnyH_take (i := 13) (oi := rnp13) (v := ?_) rfl (by as_aux_lemma => kernel_rfl) (by as_aux_lemma => kernel_rfl) (by as_aux_lemma => kernel_rfl) (fun _ _ _ h => h) (Or.inl ⟨by rfl, ?_⟩) (by assumption) ?_
              rotate_left
              · unfold rnp13; intro w hSw; (try dsimp only at hSw); go_simp; try (with_reducible rfl)
              try simp only [rnp13, Act.put, List.setIfInBounds_toArray, List.set_cons_zero, List.set_cons_succ]
              refine wpAnyH_take (i := 14) (oi := rnp14) (v := ?_) rfl (by as_aux_lemma => kernel_rfl) (by as_aux_lemma => kernel_rfl) (by as_aux_lemma => kernel_rfl) (fun _ _ _ h => h) (Or.inl ⟨by rfl, ?_⟩) (by assumption) ?_
              rotate_left
              · unfold rnp14; intro w hSw; (try dsimp only at hSw); go_simp; try (with_reducible rfl)
              try simp only [rnp14, Act.put, List.setIfInBounds_toArray, List.set_cons_zero, List.set_cons_succ]
              refine wpAnyH_take (i := 15) (oi := rnp15) (v := ?_) rfl (by as_aux_lemma => kernel_rfl) (by as_aux_lemma => kernel_rfl) (by as_aux_lemma => kernel_rfl) (fun _ _ _ h => h) (Or.inl ⟨by rfl, ?_⟩) (by assumption) ?_
              rotate_left
              · unfold rnp15; intro w hSw; (try dsimp only at hSw); go_simp; try (with_reducible rfl)
              try simp only [rnp15, Act.put, List.setIfInBounds_toArray, List.set_cons_zero, List.set_cons_succ]
              refine wpAnyH_take (i := 16) (oi := rnp16) (v := ?_) rfl (by as_aux_lemma => kernel_rfl) (by as_aux_lemma => kernel_rfl) (by as_aux_lemma => kernel_rfl) (fun _ _ _ h => h) (Or.inl ⟨by rfl, ?_⟩) (by assumption) ?_
              rotate_left
              · unfold rnp16; intro w hSw; (try dsimp only at hSw); go_simp; try (with_reducible rfl)
              try simp only [rnp16, Act.put, List.setIfInBounds_toArray, List.set_cons_zero, List.set_cons_succ]
              refine wpAnyH_take (i := 17) (oi := rnp17) (v := ?_) rfl (by as_aux_lemma => kernel_rfl) (by as_aux_lemma => kernel_rfl) (by as_aux_lemma => kernel_rfl) (fun _ _ _ h => h) (Or.inl ⟨by rfl, ?_⟩) (by assumption) ?_
              rotate_left
              · unfold rnp17; intro w hSw; (try dsimp only at hSw); go_simp; try (with_reducible rfl)
              try simp only [rnp17, Act.put, List.setIfInBounds_toArray, List.set_cons_zero, List.set_cons_succ]
              refine wpAnyH_take (i := 18) (oi := rnp18) (v := ?_) rfl (by as_aux_lemma => kernel_rfl) (by as_aux_lemma => kernel_rfl) (by as_aux_lemma => kernel_rfl) (fun _ _ _ h => h) (Or.inl ⟨by rfl, ?_⟩) (by assumption) ?_
              rotate_left
              · unfold rnp18; intro w hSw; (try dsimp only at hSw); go_simp; try (with_reducible rfl)
              try simp only [rnp18, Act.put, List.setIfInBounds_toArray, List.set_cons_zero, List.set_cons_succ]
              refine wpAnyH_take (i := 19) (oi := rnp19) (v := ?_) rfl (by as_aux_lemma => kernel_rfl) (by as_aux_lemma => kernel_rfl) (by as_aux_lemma => kernel_rfl) (fun _ _ _ h => h) (Or.inl ⟨by rfl, ?_⟩) (by assumption) ?_
              rotate_left
              · unfold rnp19; intro w hSw; (try dsimp only at hSw); go_simp; try (with_reducible rfl)
              try simp only [rnp19, Act.put, List.setIfInBounds_toArray, List.set_cons_zero, List.set_cons_succ]
              refine wpAnyH_take (i := 20) (oi := rnp20) (v := ?_) rfl (by as_aux_lemma => kernel_rfl) (by as_aux_lemma => kernel_rfl) (by as_aux_lemma => kernel_rfl) (fun _ _ _ h => h) (Or.inl ⟨by rfl, ?_⟩) (by assumption) ?_
              rotate_left
              · unfold rnp20; intro w hSw; (try dsimp only at hSw); go_simp; try (with_reducible rfl)
              try simp only [rnp20, Act.put, List.setIfInBounds_toArray, List.set_cons_zero, List.set_cons_succ]
              refine wpAnyH_take (i := 21) (oi := rnp21) (v := ?_) rfl (by as_aux_lemma => kernel_rfl) (by as_aux_lemma => kernel_rfl) (by as_aux_lemma => kernel_rfl) (fun _ _ _ h => h) (Or.inl ⟨by rfl, ?_⟩) (by assumption) ?_
              rotate_left
              · unfold rnp21; intro w hSw; (try dsimp only at hSw); go_simp; try (with_reducible rfl)
              try simp only [rnp21, Act.put, List.setIfInBounds_toArray, List.set_cons_zero, List.set_cons_succ]
              refine wpAnyH_take (i := 22) (oi := rnp22) (v := ?_) rfl (by as_aux_lemma => kernel_rfl) (by as_aux_lemma => kernel_rfl) (by as_aux_lemma => kernel_rfl) (fun _ _ _ h => h) (Or.inl ⟨by rfl, ?_⟩) (by assumption) ?_
              rotate_left
              · unfold rnp22; intro w hSw; (try dsimp only at hSw); go_simp; try (with_reducible rfl)
              try simp only [rnp22, Act.put, List.setIfInBounds_toArray, List.set_cons_zero, List.set_cons_succ]
              refine wpAnyH_take (i := 23) (oi := rnp23) (v := ?_) rfl (by as_aux_lemma => kernel_rfl) (by as_aux_lemma => kernel_rfl) (by as_aux_lemma => kernel_rfl) (fun _ _ _ h => h) (Or.inl ⟨by rfl, ?_⟩) (by assumption) ?_
              rotate_left
              · unfold rnp23; intro w hSw; (try dsimp only at hSw); go_simp; try (with_reducible rfl)
              try simp only [rnp23, Act.put, List.setIfInBounds_toArray, List.set_cons_zero, List.set_cons_succ]
              as_aux_lemma =>
               refine wpAnyH_take (i := 24) (oi := rnp24) (v := ?_) rfl (by as_aux_lemma => kernel_rfl) (by as_aux_lemma => kernel_rfl) (by as_aux_lemma => kernel_rfl) (fun _ _ _ h => h) (Or.inl ⟨by rfl, ?_⟩) (by assumption) ?_
               rotate_left
               · unfold rnp24; intro w hSw; (try dsimp only at hSw); go_simp; try (with_reducible rfl)
               try simp only [rnp24, Act.put, List.setIfInBounds_toArray, List.set_cons_zero, List.set_cons_succ]
               refine wpAnyH_take (i := 25) (oi := rnp25) (v := ?_) rfl (by as_aux_lemma => kernel_rfl) (by as_aux_lemma => kernel_rfl) (by as_aux_lemma => kernel_rfl) (fun _ _ _ h => h) (Or.inl ⟨by rfl, ?_⟩) (by assumption) ?_
               rotate_left
               · unfold rnp25; intro w hSw; (try dsimp only at hSw); go_simp; try (with_reducible rfl)
               try simp only [rnp25, Act.put, List.setIfInBounds_toArray, List.set_cons_zero, List.set_cons_succ]
               refine wpAnyH_take (i := 26) (oi := rnp26) (v := ?_) rfl (by as_aux_lemma => kernel_rfl) (by as_aux_lemma => kernel_rfl) (by as_aux_lemma => kernel_rfl) (fun _ _ _ h => h) (Or.inl ⟨by rfl, ?_⟩) (by assumption) ?_
               rotate_left
               · unfold rnp26; intro w hSw; (try dsimp only at hSw); go_simp; try (with_reducible rfl)
               try simp only [rnp26, Act.put, List.setIfInBounds_toArray, List.set_cons_zero, List.set_cons_succ]
               refine wpAnyH_take (i := 27) (oi := rnp27) (v := ?_) rfl (by as_aux_lemma => kernel_rfl) (by as_aux_lemma => kernel_rfl) (by as_aux_lemma => kernel_rfl) (fun _ _ _ h => h) (Or.inl ⟨by rfl, ?_⟩) (by assumption) ?_
               rotate_left
               · unfold rnp27; intro w hSw; (try dsimp only at hSw); go_simp; try (with_reducible rfl)
               try simp only [rnp27, Act.put, List.setIfInBounds_toArray, List.set_cons_zero, List.set_cons_succ]
               refine wpAnyH_take (i := 28) (oi := rnp28) (v := ?_) rfl (by as_aux_lemma => kernel_rfl) (by as_aux_lemma => kernel_rfl) (by as_aux_lemma => kernel_rfl) (fun _ _ _ h => h) (Or.inl ⟨by rfl, ?_⟩) (by assumption) ?_
               rotate_left
               · unfold rnp28; intro w hSw; (try dsimp only at hSw); go_simp; try (with_reducible rfl)
               try simp only [rnp28, Act.put, List.setIfInBounds_toArray, List.set_cons_zero, List.set_cons_succ]
               refine wpAnyH_take (i := 29) (oi := rnp29) (v := ?_) rfl (by as_aux_lemma => kernel_rfl) (by as_aux_lemma => kernel_rfl) (by as_aux_lemma => kernel_rfl) (fun _ _ _ h => h) (Or.inl ⟨by rfl, ?_⟩) (by assumption) ?_
               rotate_left
               · unfold rnp29; intro w hSw; (try dsimp only at hSw); go_simp; try (with_reducible rfl)
               try simp only [rnp29, Act.put, List.setIfInBounds_toArray, List.set_cons_zero, List.set_cons_succ]
               refine wpAnyH_take (i := 30) (oi := rnp30) (v := ?_) rfl (by as_aux_lemma => kernel_rfl) (by as_aux_lemma => kernel_rfl) (by as_aux_lemma => kernel_rfl) (fun _ _ _ h => h) (Or.inl ⟨by rfl, ?_⟩) (by assumption) ?_
               rotate_left
               · unfold rnp30; intro w hSw; (try dsimp only at hSw); go_simp; try (with_reducible rfl)
               try simp only [rnp30, Act.put, List.setIfInBounds_toArray, List.set_cons_zero, List.set_cons_succ]
               refine wpAnyH_take (i := 31) (oi := rnp31) (v := undef) rfl (by as_aux_lemma => kernel_rfl) (by as_aux_lemma => kernel_rfl) (by as_aux_lemma => kernel_rfl) (fun _ _ _ h => h) (Or.inr ⟨by rfl, rfl⟩) (by assumption) ?_
               try simp only [rnp31, Act.put, List.setIfInBounds_toArray, List.set_cons_zero, List.set_cons_succ]
               refine wpAnyH_take (i := 32) (oi := rnp32) (v := undef) rfl (by as_aux_lemma => kernel_rfl) (by as_aux_lemma => kernel_rfl) (by as_aux_lemma => kernel_rfl) (fun _ _ _ h => h) (Or.inr ⟨by rfl, rfl⟩) (by assumption) ?_
               try simp only [rnp32, Act.put, List.setIfInBounds_toArray, List.set_cons_zero, List.set_cons_succ]
               refine wpAnyH_take (i := 33) (oi := rnp33) (v := undef) rfl (by as_aux_lemma => kernel_rfl) (by as_aux_lemma => kernel_rfl) (by as_aux_lemma => kernel_rfl) (fun _ _ _ h => h) (Or.inr ⟨by rfl, rfl⟩) (by assumption) ?_
               try simp only [rnp33, Act.put, List.setIfInBounds_toArray, List.set_cons_zero, List.set_cons_succ]
               refine wpAnyH_take (i := 34) (oi := rnp34) (v := undef) rfl (by as_aux_lemma => kernel_rfl) (by as_aux_lemma => kernel_rfl) (by as_aux_lemma => kernel_rfl) (fun _ _ _ h => h) (Or.inr ⟨by rfl, rfl⟩) (by assumption) ?_
               try simp only [rnp34, Act.put, List.setIfInBounds_toArray, List.set_cons_zero, List.set_cons_succ]
               refine wpAnyH_take (i := 35) (oi := rnp35) (v := undef) rfl (by as_aux_lemma => kernel_rfl) (by as_aux_lemma => kernel_rfl) (by as_aux_lemma => kernel_rfl) (fun _ _ _ h => h) (Or.inr ⟨by rfl, rfl⟩) (by assumption) ?_
               try simp only [rnp35, Act.put, List.setIfInBounds_toArray, List.set_cons_zero, List.set_cons_succ]
               refine wpAnyH_take (i := 36) (oi := rnp36) (v := undef) rfl (by as_aux_lemma => kernel_rfl) (by as_aux_lemma => kernel_rfl) (by as_aux_lemma => kernel_rfl) (fun _ _ _ h => h) (Or.inr ⟨by rfl, rfl⟩) (by assumption) ?_
               try simp only [rnp36, Act.put, List.setIfInBounds_toArray, List.set_cons_zero, List.set_cons_succ]
               refine wpAnyH_take (i := 37) (oi := rnp37) (v := undef) rfl (by as_aux_lemma => kernel_rfl) (by as_aux_lemma => kernel_rfl) (by as_aux_lemma => kernel_rfl) (fun _ _ _ h => h) (Or.inr ⟨by rfl, rfl⟩) (by assumption) ?_
               try simp only [rnp37, Act.put, List.setIfInBounds_toArray, List.set_cons_zero, List.set_cons_succ]
               refine wpAnyH_take (i := 38) (oi := rnp38) (v := undef) rfl (by as_aux_lemma => kernel_rfl) (by as_aux_lemma => kernel_rfl) (by as_aux_lemma => kernel_rfl) (fun _ _ _ h => h) (Or.inr ⟨by rfl, rfl⟩) (by assumption) ?_
               try simp only [rnp38, Act.put, List.setIfInBounds_toArray, List.set_cons_zero, List.set_cons_succ]
               refine wpAnyH_take (i := 39) (oi := rnp39) (v := undef) rfl (by as_aux_lemma => kernel_rfl) (by as_aux_lemma => kernel_rfl) (by as_aux_lemma => kernel_rfl) (fun _ _ _ h => h) (Or.inr ⟨by rfl, rfl⟩) (by assumption) ?_
               try simp only [rnp39, Act.put, List.setIfInBounds_toArray, List.set_cons_zero, List.set_cons_succ]
               refine wpAnyH_take (i := 40) (oi := rnp40) (v := undef) rfl (by as_aux_lemma => kernel_rfl) (by as_aux_lemma => kernel_rfl) (by as_aux_lemma => kernel_rfl) (fun _ _ _ h => h) (Or.inr ⟨by rfl, rfl⟩) (by assumption) ?_
               try simp only [rnp40, Act.put, List.setIfInBounds_toArray, List.set_cons_zero, List.set_cons_succ]
               refine wpAnyH_take (i := 41) (oi := rnp41) (v := undef) rfl (by as_aux_lemma => kernel_rfl) (by as_aux_lemma => kernel_rfl) (by as_aux_lemma => kernel_rfl) (fun _ _ _ h => h) (Or.inr ⟨by rfl, rfl⟩) (by assumption) ?_
               try simp only [rnp41, Act.put, List.setIfInBounds_toArray, List.set_cons_zero, List.set_cons_succ]
               refine wpAnyH_take (i := 42) (oi := rnp42) (v := undef) rfl (by as_aux_lemma => kernel_rfl) (by as_aux_lemma => kernel_rfl) (by as_aux_lemma => kernel_rfl) (fun _ _ _ h => h) (Or.inr ⟨by rfl, rfl⟩) (by assumption) ?_
               try simp only [rnp42, Act.put, List.setIfInBounds_toArray, List.set_cons_zero, List.set_cons_succ]
               refine wpAnyH_take (i := 43) (oi := rnp43) (v := undef) rfl (by as_aux_lemma => kernel_rfl) (by as_aux_lemma => kernel_rfl) (by as_aux_lemma => kernel_rfl) (fun _ _ _ h => h) (Or.inr ⟨by rfl, rfl⟩) (by assumption) ?_
               try simp only [rnp43, Act.put, List.setIfInBounds_toArray, List.set_cons_zero, List.set_cons_succ]
               refine wpAnyH_take (i := 44) (oi := rnp44) (v := undef) rfl (by as_aux_lemma => kernel_rfl) (by as_aux_lemma => kernel_rfl) (by as_aux_lemma => kernel_rfl) (fun _ _ _ h => h) (Or.inr ⟨by rfl, rfl⟩) (by assumption) ?_
               try simp only [rnp44, Act.put, List.setIfInBounds_toArray, List.set_cons_zero, List.set_cons_succ]
               refine wpAnyH_take (i := 45) (oi := rnp45) (v := ?_) rfl (by as_aux_lemma => kernel_rfl) (by as_aux_lemma => kernel_rfl) (by as_aux_lemma => kernel_rfl) (fun _ _ _ h => h) (Or.inl ⟨by rfl, ?_⟩) (by assumption) ?_
               rotate_left
               · unfold rnp45; intro w hSw; (try dsimp only at hSw); go_simp; try (with_reducible rfl)
               try simp only [rnp45, Act.put, List.setIfInBounds_toArray, List.set_cons_zero, List.set_cons_succ]
               refine wpAnyH_take (i := 46) (oi := rnp46) (v := ?_) rfl (by as_aux_lemma => kernel_rfl) (by as_aux_lemma => kernel_rfl) (by as_aux_lemma => kernel_rfl) (fun _ _ _ h => h) (Or.inl ⟨by rfl, ?_⟩) (by assumption) ?_
               rotate_left
               · unfold rnp46; intro w hSw; (try dsimp only at hSw); go_simp; try (with_reducible rfl)
               try simp only [rnp46, Act.put, List.setIfInBounds_toArray, List.set_cons_zero, List.set_cons_succ]
               refine wpAnyH_done (by kernel_rfl) ?_ _
               go_wp2_with fail
               go_meet
               refine ⟨rfl, ?_⟩
               repeat (first | exact Below.refl _ _ | refine below_bx2 ?_ _ | refine below_drw ?_ | refine below_to ?_ (by assumption))
        | true =>
          obtain ⟨hn0, hz⟩ := HGL.out rfl
          have hnn : decide (NN < 0) = false := decide_eq_false (by omega)
          rw [← hz] at HSM
          clear HGL hz
          by_cases hN0 : NN = 0
          · subst hN0
            rw [decide_eq_true (rfl : (0 : Int) = 0)] at HSM
            cases Sb with
            | false =>
              refine wp_region_held_drew (S := (fun w' => w'.cell? ⟨ka, 0, none⟩ = some (.slice aa qs.length ca) ∧ w'.cell? ⟨kb, 0, none⟩ = some (.slice ab Lb.length cb) ∧ w'.cell? ⟨kb, 2, none⟩ = some (.bool false) ∧ w'.cell? ⟨kc, 0, none⟩ = some (.slice ac Lc.length cc) ∧ w'.cell? ⟨kc, 1, none⟩ = some (.int .i64 Nc) ∧ w'.cell? ⟨kc, 2, none⟩ = some (.bool Sc) ∧ w'.cell? ⟨kl, 0, none⟩ = some (.int .i64 0))) (by kernel_rfl) ?_ (fun hHeld => ?_)
              · (refine rnd_keep Ba_158 Bb_160 Bc_162 Bl0 ?_; repeat (first | exact Below.refl _ _ | refine below_bx2 ?_ _ | refine below_drw ?_ | refine below_to ?_ (by assumption)))
              refine wpAnyH_take (i := 0) (oi := rnp0) (v := ?_) rfl (by as_aux_lemma => kernel_rfl) (by as_aux_lemma => kernel_rfl) (by as_aux_lemma => kernel_rfl) (fun _ _ _ h => h) (Or.inl ⟨by rfl, ?_⟩) (by assumption) ?_
              rotate_left
              · unfold rnp0; intro w hSw; (try dsimp only at hSw); go_simp; try (with_reducible rfl)
              try simp only [rnp0, Act.put, List.setIfInBounds_toArray, List.set_cons_zero, List.set_cons_succ]
              refine wpAnyH_take (i := 1) (oi := rnp1) (v := ?_) rfl (by as_aux_lemma => kernel_rfl) (by as_aux_lemma => kernel_rfl) (by as_aux_lemma => kernel_rfl) (fun _ _ _ h => h) (Or.inl ⟨by rfl, ?_⟩) (by assumption) ?_
              rotate_left
              · unfold rnp1; intro w hSw; (try dsimp only at hSw); go_simp; try (with_reducible rfl)
              try simp only [rnp1, Act.put, List.setIfInBounds_toArray, List.set_cons_zero, List.set_cons_succ]
              refine wpAnyH_take (i := 2) (oi := rnp2) (v := ?_) rfl (by as_aux_lemma => kernel_rfl) (by as_aux_lemma => kernel_rfl) (by as_aux_lemma => kernel_rfl) (fun _ _ _ h => h) (Or.inl ⟨by rfl, ?_⟩) (by assumption) ?_
              rotate_left
              · unfold rnp2; intro w hSw; (try dsimp only at hSw); go_simp; try (with_reducible rfl)
              try simp only [rnp2, Act.put, List.setIfInBounds_toArray, List.set_cons_zero, List.set_cons_succ]
              refine wpAnyH_take (i := 3) (oi := rnp3) (v := ?_) rfl (by as_aux_lemma => kernel_rfl) (by as_aux_lemma => kernel_rfl) (by as_aux_lemma => kernel_rfl) (fun _ _ _ h => h) (Or.inl ⟨by rfl, ?_⟩) (by assumption) ?_
              rotate_left
              · unfold rnp3; intro w hSw; (try dsimp only at hSw); go_simp; try (with_reducible rfl)
              try simp only [rnp3, Act.put, List.setIfInBounds_toArray, List.set_cons_zero, List.set_cons_succ]
              refine wpAnyH_ready (rs := [4]) (by as_aux_lemma => kernel_rfl) (by simp) ?_
              refine AllReadyH.cons (o := rnp4) rfl (fun K hK => ?_) AllReadyH.nil
              unfold rnp4
              go_simp
              (go_at_call 16; (with_reducible refine (HW1.out _ ?_ ?_).mono ?_); (focus ((refine Hb_159.out.below ?_); repeat (first | exact Below.refl _ _ | refine below_bx2 ?_ _ | refine below_drw ?_ | refine below_to ?_ (by assumption)))); (focus ((refine Ha_157.out.below ?_); repeat (first | exact Below.refl _ _ | refine below_bx2 ?_ _ | refine below_drw ?_ | refine below_to ?_ (by assumption)))); rintro e vv0 ⟨rfl, bw0⟩)
              try go_wp2_with fail
              refine hK.out _ _ ?_ (fun hHeld2 => ?_)
              · (refine rnd_keep Ba_158 Bb_160 Bc_162 Bl0 ?_; repeat (first | exact Below.refl _ _ | refine below_bx2 ?_ _ | refine below_drw ?_ | refine below_to ?_ (by assumption)))
              clear hK K hHeld
              have hHeld := hHeld2
              clear hHeld2
              try simp only [rnp4, Act.put, List.setIfInBounds_toArray, List.set_cons_zero, List.set_cons_succ]
              as_aux_lemma =>
               refine wpAnyH_take (i := 5) (oi := rnp5) (v := ?_) rfl (by as_aux_lemma => kernel_rfl) (by as_aux_lemma => kernel_rfl) (by as_aux_lemma => kernel_rfl) (fun _ _ _ h => h) (Or.inl ⟨by rfl, ?_⟩) (by assumption) ?_
               rotate_left
               · unfold rnp5; intro w hSw; (try dsimp only at hSw); go_simp; try (with_reducible rfl)
               try simp only [rnp5, Act.put, List.setIfInBounds_toArray, List.set_cons_zero, List.set_cons_succ]
               refine wpAnyH_take (i := 6) (oi := rnp6) (v := ?_) rfl (by as_aux_lemma => kernel_rfl) (by as_aux_lemma => kernel_rfl) (by as_aux_lemma => kernel_rfl) (fun _ _ _ h => h) (Or.inl ⟨by rfl, ?_⟩) (by assumption) ?_
               rotate_left
               · unfold rnp6; intro w hSw; (try dsimp only at hSw); go_simp; try (with_reducible rfl)
               try simp only [rnp6, Act.put, List.setIfInBounds_toArray, List.set_cons_zero, List.set_cons_succ]
               refine wpAnyH_take (i := 7) (oi := rnp7) (v := ?_) rfl (by as_aux_lemma => kernel_rfl) (by as_aux_lemma => kernel_rfl) (by as_aux_lemma => kernel_rfl) (fun _ _ _ h => h) (Or.inl ⟨by rfl, ?_⟩) (by assumption) ?_
               rotate_left
               · unfold rnp7; intro w hSw; (try dsimp only at hSw); go_simp; try (with_reducible rfl)
               try simp only [rnp7, Act.put, List.setIfInBounds_toArray, List.set_cons_zero, List.set_cons_succ]
               refine wpAnyH_take (i := 8) (oi := rnp8) (v := ?_) rfl (by as_aux_lemma => kernel_rfl) (by as_aux_lemma => kernel_rfl) (by as_aux_lemma => kernel_rfl) (fun _ _ _ h => h) (Or.inl ⟨by rfl, ?_⟩) (by assumption) ?_
               rotate_left
               · unfold rnp8; intro w hSw; (try dsimp only at hSw); go_simp; try (with_reducible rfl)
               try simp only [rnp8, Act.put, List.setIfInBounds_toArray, List.set_cons_zero, List.set_cons_succ]
               refine wpAnyH_take (i := 9) (oi := rnp9) (v := ?_) rfl (by as_aux_lemma => kernel_rfl) (by as_aux_lemma => kernel_rfl) (by as_aux_lemma => kernel_rfl) (fun _ _ _ h => h) (Or.inl ⟨by rfl, ?_⟩) (by assumption) ?_
               rotate_left
               · unfold rnp9; intro w hSw; (try dsimp only at hSw); go_simp; try (with_reducible rfl)
               try simp only [rnp9, Act.put, List.setIfInBounds_toArray, List.set_cons_zero, List.set_cons_succ]
               refine wpAnyH_take (i := 10) (oi := rnp10) (v := ?_) rfl (by as_aux_lemma => kernel_rfl) (by as_aux_lemma => kernel_rfl) (by as_aux_lemma => kernel_rfl) (fun _ _ _ h => h) (Or.inl ⟨by rfl, ?_⟩) (by assumption) ?_
               rotate_left
               · unfold rnp10; intro w hSw; (try dsimp only at hSw); go_simp; try (with_reducible rfl)
               try simp only [rnp10, Act.put, List.setIfInBounds_toArray, List.set_cons_zero, List.set_cons_succ]
               refine wpAnyH_ready (rs := [11]) (by as_aux_lemma => kernel_rfl) (by simp) ?_
               refine AllReadyH.cons (o := rnp11) rfl (fun K hK => ?_) AllReadyH.nil
               unfold rnp11
               go_simp
               (go_at_call 16; (with_reducible refine (HW2.out _ ?_ ?_).mono ?_); (focus ((refine Hc_161.out.below ?_); repeat (first | exact Below.refl _ _ | refine below_bx2 ?_ _ | refine below_drw ?_ | refine below_to ?_ (by assumption)))); (focus ((refine Hb_159.out.below ?_); repeat (first | exact Below.refl _ _ | refine below_bx2 ?_ _ | refine below_drw ?_ | refine below_to ?_ (by assumption)))); rintro e vv1 ⟨rfl, bw1⟩)
               try go_wp2_with fail
               refine hK.out _ _ ?_ (fun hHeld2 => ?_)
               · (refine rnd_keep Ba_158 Bb_160 Bc_162 Bl0 ?_; repeat (first | exact Below.refl _ _ | refine below_bx2 ?_ _ | refine below_drw ?_ | refine below_to ?_ (by assumption)))
               clear hK K hHeld
               have hHeld := hHeld2
               clear hHeld2
               try simp only [rnp11, Act.put, List.setIfInBounds_toArray, List.set_cons_zero, List.set_cons_succ]
               as_aux_lemma =>
                refine wpAnyH_take (i := 12) (oi := rnp12) (v := ?_) rfl (by as_aux_lemma => kernel_rfl) (by as_aux_lemma => kernel_rfl) (by as_aux_lemma => kernel_rfl) (fun _ _ _ h => h) (Or.inl ⟨by rfl, ?_⟩) (by assumption) ?_
                rotate_left
                · unfold rnp12; intro w hSw; (try dsimp only at hSw); go_simp; try (with_reducible rfl)
                try simp only [rnp12, Act.put, List.setIfInBounds_toArray, List.set_cons_zero, List.set_cons_succ]
                refine wpAnyH_take (i := 13) (oi := rnp13) (v := ?_) rfl (by as_aux_lemma => kernel_rfl) (by as_aux_lemma => kernel_rfl) (by as_aux_lemma => kernel_rfl) (fun _ _ _ h => h) (Or.inl ⟨by rfl, ?_⟩) (by assumption) ?_
                rotate_left
                · unfold rnp13; intro w hSw; (try dsimp only at hSw); go_simp; try (with_reducible rfl)
                try simp only [rnp13, Act.put, List.setIfInBounds_toArray, List.set_cons_zero, List.set_cons_succ]
                refine wpAnyH_take (i := 14) (oi := rnp14) (v := ?_) rfl (by as_aux_lemma => kernel_rfl) (by as_aux_lemma => kernel_rfl) (by as_aux_lemma => kernel_rfl) (fun _ _ _ h => h) (Or.inl ⟨by rfl, ?_⟩) (by assumption) ?_
                rotate_left
                · unfold rnp14; intro w hSw; (try dsimp only at hSw); go_simp; try (with_reducible rfl)
                try simp only [rnp14, Act.put, List.setIfInBounds_toArray, List.set_cons_zero, List.set_cons_succ]
                refine wpAnyH_take (i := 15) (oi := rnp15) (v := ?_) rfl (by as_aux_lemma => kernel_rfl) (by as_aux_lemma => kernel_rfl) (by as_aux_lemma => kernel_rfl) (fun _ _ _ h => h) (Or.inl ⟨by rfl, ?_⟩) (by assumption) ?_
                rotate_left
                · unfold rnp15; intro w hSw; (try dsimp only at hSw); go_simp; try (with_reducible rfl)
                try simp only [rnp15, Act.put, List.setIfInBounds_toArray, List.set_cons_zero, List.set_cons_succ]
                refine wpAnyH_take (i := 16) (oi := rnp16) (v := ?_) rfl (by as_aux_lemma => kernel_rfl) (by as_aux_lemma => kernel_rfl) (by as_aux_lemma => kernel_rfl) (fun _ _ _ h => h) (Or.inl ⟨by rfl, ?_⟩) (by assumption) ?_
                rotate_left
                · unfold rnp16; intro w hSw; (try dsimp only at hSw); go_simp; try (with_reducible rfl)
                try simp only [rnp16, Act.put, List.setIfInBounds_toArray, List.set_cons_zero, List.set_cons_succ]
                refine wpAnyH_take (i := 17) (oi := rnp17) (v := ?_) rfl (by as_aux_lemma => kernel_rfl) (by as_aux_lemma => kernel_rfl) (by as_aux_lemma => kernel_rfl) (fun _ _ _ h => h) (Or.inl ⟨by rfl, ?_⟩) (by assumption) ?_
                rotate_left
                · unfold rnp17; intro w hSw; (try dsimp only at hSw); go_simp; try (with_reducible rfl)
                try simp only [rnp17, Act.put, List.setIfInBounds_toArray, List.set_cons_zero, List.set_cons_succ]
                refine wpAnyH_take (i := 18) (oi := rnp18) (v := ?_) rfl (by as_aux_lemma => kernel_rfl) (by as_aux_lemma => kernel_rfl) (by as_aux_lemma => kernel_rfl) (fun _ _ _ h => h) (Or.inl ⟨by rfl, ?_⟩) (by assumption) ?_
                rotate_left
                · unfold rnp18; intro w hSw; (try dsimp only at hSw); go_simp; try (with_reducible rfl)
                try simp only [rnp18, Act.put, List.setIfInBounds_toArray, List.set_cons_zero, List.set_cons_succ]
                refine wpAnyH_take (i := 19) (oi := rnp19) (v := ?_) rfl (by as_aux_lemma => kernel_rfl) (by as_aux_lemma => kernel_rfl) (by as_aux_lemma => kernel_rfl) (fun _ _ _ h => h) (Or.inl ⟨by rfl, ?_⟩) (by assumption) ?_
                rotate_left
                · unfold rnp19; intro w hSw; (try dsimp only at hSw); go_simp; try (with_reducible rfl)
                try simp only [rnp19, Act.put, List.setIfInBounds_toArray, List.set_cons_zero, List.set_cons_succ]
                refine wpAnyH_take (i := 20) (oi := rnp20) (v := ?_) rfl (by as_aux_lemma => kernel_rfl) (by as_aux_lemma => kernel_rfl) (by as_aux_lemma => kernel_rfl) (fun _ _ _ h => h) (Or.inl ⟨by rfl, ?_⟩) (by assumption) ?_
                rotate_left
                · unfold rnp20; intro w hSw; (try dsimp only at hSw); go_simp; try (with_reducible rfl)
                try simp only [rnp20, Act.put, List.setIfInBounds_toArray, List.set_cons_zero, List.set_cons_succ]
                refine wpAnyH_take (i := 21) (oi := rnp21) (v := ?_) rfl (by as_aux_lemma => kernel_rfl) (by as_aux_lemma => kernel_rfl) (by as_aux_lemma => kernel_rfl) (fun _ _ _ h => h) (Or.inl ⟨by rfl, ?_⟩) (by assumption) ?_
                rotate_left
                · unfold rnp21; intro w hSw; (try dsimp only at hSw); go_simp; try (with_reducible rfl)
                try simp only [rnp21, Act.put, List.setIfInBounds_toArray, List.set_cons_zero, List.set_cons_succ]
                refine wpAnyH_take (i := 22) (oi := rnp22) (v := ?_) rfl (by as_aux_lemma => kernel_rfl) (by as_aux_lemma => kernel_rfl) (by as_aux_lemma => kernel_rfl) (fun _ _ _ h => h) (Or.inl ⟨by rfl, ?_⟩) (by assumption) ?_
                rotate_left
                · unfold rnp22; intro w hSw; (try dsimp only at hSw); go_simp; try (with_reducible rfl)
                try simp only [rnp22, Act.put, List.setIfInBounds_toArray, List.set_cons_zero, List.set_cons_succ]
                refine wpAnyH_take (i := 23) (oi := rnp23) (v := undef) rfl (by as_aux_lemma => kernel_rfl) (by as_aux_lemma => kernel_rfl) (by as_aux_lemma => kernel_rfl) (fun _ _ _ h => h) (Or.inr ⟨by rfl, rfl⟩) (by assumption) ?_
                try simp only [rnp23, Act.put, List.setIfInBounds_toArray, List.set_cons_zero, List.set_cons_succ]
                refine wpAnyH_take (i := 24) (oi := rnp24) (v := undef) rfl (by as_aux_lemma => kernel_rfl) (by as_aux_lemma => kernel_rfl) (by as_aux_lemma => kernel_rfl) (fun _ _ _ h => h) (Or.inr ⟨by rfl, rfl⟩) (by assumption) ?_
                try simp only [rnp24, Act.put, List.setIfInBounds_toArray, List.set_cons_zero, List.set_cons_succ]
                refine wpAnyH_take (i := 25) (oi := rnp25) (v := undef) rfl (by as_aux_lemma => kernel_rfl) (by as_aux_lemma => kernel_rfl) (by as_aux_lemma => kernel_rfl) (fun _ _ _ h => h) (Or.inr ⟨by rfl, rfl⟩) (by assumption) ?_
                try simp only [rnp25, Act.put, List.setIfInBounds_toArray, List.set_cons_zero, List.set_cons_succ]
                refine wpAnyH_take (i := 26) (oi := rnp26) (v := ?_) rfl (by as_aux_lemma => kernel_rfl) (by as_aux_lemma => kernel_rfl) (by as_aux_lemma => kernel_rfl) (fun _ _ _ h => h) (Or.inl ⟨by rfl, ?_⟩) (by assumption) ?_
                rotate_left
                · unfold rnp26; intro w hSw; (try dsimp only at hSw); go_simp; try (with_reducible rfl)
                try simp only [rnp26, Act.put, List.setIfInBounds_toArray, List.set_cons_zero, List.set_cons_succ]
                as_aux_lemma =>
                 refine wpAnyH_take (i := 27) (oi := rnp27) (v := ?_) rfl (by as_aux_lemma => kernel_rfl) (by as_aux_lemma => kernel_rfl) (by as_aux_lemma => kernel_rfl) (fun _ _ _ h => h) (Or.inl ⟨by rfl, ?_⟩) (by assumption) ?_
                 rotate_left
                 · unfold rnp27; intro w hSw; (try dsimp only at hSw); go_simp; try (with_reducible rfl)
                 try simp only [rnp27, Act.put, List.setIfInBounds_toArray, List.set_cons_zero, List.set_cons_succ]
                 refine wpAnyH_take (i := 28) (oi := rnp28) (v := ?_) rfl (by as_aux_lemma => kernel_rfl) (by as_aux_lemma => kernel_rfl) (by as_aux_lemma => kernel_rfl) (fun _ _ _ h => h) (Or.inl ⟨by rfl, ?_⟩) (by assumption) ?_
                 rotate_left
                 · unfold rnp28; intro w hSw; (try dsimp only at hSw); go_simp; try (with_reducible rfl)
                 try simp only [rnp28, Act.put, List.setIfInBounds_toArray, List.set_cons_zero, List.set_cons_succ]
                 refine wpAnyH_take (i := 29) (oi := rnp29) (v := ?_) rfl (by as_aux_lemma => kernel_rfl) (by as_aux_lemma => kernel_rfl) (by as_aux_lemma => kernel_rfl) (fun _ _ _ h => h) (Or.inl ⟨by rfl, ?_⟩) (by assumption) ?_
                 rotate_left
                 · unfold rnp29; intro w hSw; (try dsimp only at hSw); go_simp; try (with_reducible rfl)
                 try simp only [rnp29, Act.put, List.setIfInBounds_toArray, List.set_cons_zero, List.set_cons_succ]
                 refine wpAnyH_take (i := 30) (oi := rnp30) (v := ?_) rfl (by as_aux_lemma => kernel_rfl) (by as_aux_lemma => kernel_rfl) (by as_aux_lemma => kernel_rfl) (fun _ _ _ h => h) (Or.inl ⟨by rfl, ?_⟩) (by assumption) ?_
                 rotate_left
                 · unfold rnp30; intro w hSw; (try dsimp only at hSw); go_simp; try (with_reducible rfl)
                 try simp only [rnp30, Act.put, List.setIfInBounds_toArray, List.set_cons_zero, List.set_cons_succ]
                 refine wpAnyH_take (i := 31) (oi := rnp31) (v := ?_) rfl (by as_aux_lemma => kernel_rfl) (by as_aux_lemma => kernel_rfl) (by as_aux_lemma => kernel_rfl) (fun _ _ _ h => h) (Or.inl ⟨by rfl, ?_⟩) (by assumption) ?_
                 rotate_left
                 · unfold rnp31; intro w hSw; (try dsimp only at hSw); go_simp; try (with_reducible rfl)
                 try simp only [rnp31, Act.put, List.setIfInBounds_toArray, List.set_cons_zero, List.set_cons_succ]
                 refine wpAnyH_take (i := 32) (oi := rnp32) (v := ?_) rfl (by as_aux_lemma => kernel_rfl) (by as_aux_lemma => kernel_rfl) (by as_aux_lemma => kernel_rfl) (fun _ _ _ h => h) (Or.inl ⟨by rfl, ?_⟩) (by assumption) ?_
                 rotate_left
                 · unfold rnp32; intro w hSw; (try dsimp only at hSw); go_simp; try (with_reducible rfl)
                 try simp only [rnp32, Act.put, List.setIfInBounds_toArray, List.set_cons_zero, List.set_cons_succ]
                 refine wpAnyH_take (i := 33) (oi := rnp33) (v := ?_) rfl (by as_aux_lemma => kernel_rfl) (by as_aux_lemma => kernel_rfl) (by as_aux_lemma => kernel_rfl) (fun _ _ _ h => h) (Or.inl ⟨by rfl, ?_⟩) (by assumption) ?_
                 rotate_left
                 · unfold rnp33; intro w hSw; (try dsimp only at hSw); go_simp; try (with_reducible rfl)
                 try simp only [rnp33, Act.put, List.setIfInBounds_toArray, List.set_cons_zero, List.set_cons_succ]
                 refine wpAnyH_take (i := 34) (oi := rnp34) (v := ?_) rfl (by as_aux_lemma => kernel_rfl) (by as_aux_lemma => kernel_rfl) (by as_aux_lemma => kernel_rfl) (fun _ _ _ h => h) (Or.inl ⟨by rfl, ?_⟩) (by assumption) ?_
                 rotate_left
                 · unfold rnp34; intro w hSw; (try dsimp only at hSw); go_simp; try (with_reducible rfl)
                 try simp only [rnp34, Act.put, List.setIfInBounds_toArray, List.set_cons_zero, List.set_cons_succ]
                 refine wpAnyH_take (i := 35) (oi := rnp35) (v := ?_) rfl (by as_aux_lemma => kernel_rfl) (by as_aux_lemma => kernel_rfl) (by as_aux_lemma => kernel_rfl) (fun _ _ _ h => h) (Or.inl ⟨by rfl, ?_⟩) (by assumption) ?_
                 rotate_left
                 · unfold rnp35; intro w hSw; (try dsimp only at hSw); go_simp; try (with_reducible rfl)
                 try simp only [rnp35, Act.put, List.setIfInBounds_toArray, List.set_cons_zero, List.set_cons_succ]
                 refine wpAnyH_take (i := 36) (oi := rnp36) (v := ?_) rfl (by as_aux_lemma => kernel_rfl) (by as_aux_lemma => kernel_rfl) (by as_aux_lemma => kernel_rfl) (fun _ _ _ h => h) (Or.inl ⟨by rfl, ?_⟩) (by assumption) ?_
                 rotate_left
                 · unfold rnp36; intro w hSw; (try dsimp only at hSw); go_simp; try (with_reducible rfl)
                 try simp only [rnp36, Act.put, List.setIfInBounds_toArray, List.set_cons_zero, List.set_cons_succ]
                 refine wpAnyH_take (i := 37) (oi := rnp37) (v := ?_) rfl (by as_aux_lemma => kernel_rfl) (by as_aux_lemma => kernel_rfl) (by as_aux_lemma => kernel_rfl) (fun _ _ _ h => h) (Or.inl ⟨by rfl, ?_⟩) (by assumption) ?_
                 rotate_left
                 · unfold rnp37; intro w hSw; (try dsimp only at hSw); go_simp; try (with_reducible rfl)
                 try simp only [rnp37, Act.put, List.setIfInBounds_toArray, List.set_cons_zero, List.set_cons_succ]
                 refine wpAnyH_take (i := 38) (oi := rnp38) (v := ?_) rfl (by as_aux_lemma => kernel_rfl) (by as_aux_lemma => kernel_rfl) (by as_aux_lemma => kernel_rfl) (fun _ _ _ h => h) (Or.inl ⟨by rfl, ?_⟩) (by assumption) ?_
                 rotate_left
                 · unfold rnp38; intro w hSw; (try dsimp only at hSw); go_simp; try (with_reducible rfl)
                 try simp only [rnp38, Act.put, List.setIfInBounds_toArray, List.set_cons_zero, List.set_cons_succ]
                 as_aux_lemma =>
                  refine wpAnyH_take (i := 39) (oi := rnp39) (v := ?_) rfl (by as_aux_lemma => kernel_rfl) (by as_aux_lemma => kernel_rfl) (by as_aux_lemma => kernel_rfl) (fun _ _ _ h => h) (Or.inl ⟨by rfl, ?_⟩) (by assumption) ?_
                  rotate_left
                  · unfold rnp39; intro w hSw; (try dsimp only at hSw); go_simp; try (with_reducible rfl)
                  try simp only [rnp39, Act.put, List.setIfInBounds_toArray, List.set_cons_zero, List.set_cons_succ]
                  refine wpAnyH_take (i := 40) (oi := rnp40) (v := ?_) rfl (by as_aux_lemma => kernel_rfl) (by as_aux_lemma => kernel_rfl) (by as_aux_lemma => kernel_rfl) (fun _ _ _ h => h) (Or.inl ⟨by rfl, ?_⟩) (by assumption) ?_
                  rotate_left
                  · unfold rnp40; intro w hSw; (try dsimp only at hSw); go_simp; try (with_reducible rfl)
                  try simp only [rnp40, Act.put, List.setIfInBounds_toArray, List.set_cons_zero, List.set_cons_succ]
                  refine wpAnyH_take (i := 41) (oi := rnp41) (v := ?_) rfl (by as_aux_lemma => kernel_rfl) (by as_aux_lemma => kernel_rfl) (by as_aux_lemma => kernel_rfl) (fun _ _ _ h => h) (Or.inl ⟨by rfl, ?_⟩) (by assumption) ?_
                  rotate_left
                  · unfold rnp41; intro w hSw; (try dsimp only at hSw); go_simp; try (with_reducible rfl)
                  try simp only [rnp41, Act.put, List.setIfInBounds_toArray, List.set_cons_zero, List.set_cons_succ]
                  refine wpAnyH_ready (rs := [42]) (by as_aux_lemma => kernel_rfl) (by simp) ?_
                  refine AllReadyH.cons (o := rnp42) rfl (fun K hK => ?_) AllReadyH.nil
                  unfold rnp42
                  go_simp
                  (go_at_call 21; (with_reducible refine (HSM.out _ ?_ ?_).mono ?_); (focus ((refine Ha_157.out.below ?_); repeat (first | exact Below.refl _ _ | refine below_bx2 ?_ _ | refine below_drw ?_ | refine below_to ?_ (by assumption)))); (focus ((refine Hb_159.out.below ?_); repeat (first | exact Below.refl _ _ | refine below_bx2 ?_ _ | refine below_drw ?_ | refine below_to ?_ (by assumption)))); rintro e vv2 ⟨rfl, bw2⟩)
                  try go_wp2_with fail
                  refine hK.out _ _ ?_ (fun hHeld2 => ?_)
                  · (refine rnd_keep Ba_158 Bb_160 Bc_162 Bl0 ?_; repeat (first | exact Below.refl _ _ | refine below_bx2 ?_ _ | refine below_drw ?_ | refine below_to ?_ (by assumption)))
                  clear hK K hHeld
                  have hHeld := hHeld2
                  clear hHeld2
                  try simp only [rnp42, Act.put, List.setIfInBounds_toArray, List.set_cons_zero, List.set_cons_succ]
                  as_aux_lemma =>
                   refine wpAnyH_take (i := 43) (oi := rnp43) (v := ?_) rfl (by as_aux_lemma => kernel_rfl) (by as_aux_lemma => kernel_rfl) (by as_aux_lemma => kernel_rfl) (fun _ _ _ h => h) (Or.inl ⟨by rfl, ?_⟩) (by assumption) ?_
                   rotate_left
                   · unfold rnp43; intro w hSw; (try dsimp only at hSw); go_simp; try (with_reducible rfl)
                   try simp only [rnp43, Act.put, List.setIfInBounds_toArray, List.set_cons_zero, List.set_cons_succ]
                   refine wpAnyH_take (i := 44) (oi := rnp44) (v := ?_) rfl (by as_aux_lemma => kernel_rfl) (by as_aux_lemma => kernel_rfl) (by as_aux_lemma => kernel_rfl) (fun _ _ _ h => h) (Or.inl ⟨by rfl, ?_⟩) (by assumption) ?_
                   rotate_left
                   · unfold rnp44; intro w hSw; (try dsimp only at hSw); go_simp; try (with_reducible rfl)
                   try simp only [rnp44, Act.put, List.setIfInBounds_toArray, List.set_cons_zero, List.set_cons_succ]
                   refine wpAnyH_take (i := 45) (oi := rnp45) (v := ?_) rfl (by as_aux_lemma => kernel_rfl) (by as_aux_lemma => kernel_rfl) (by as_aux_lemma => kernel_rfl) (fun _ _ _ h => h) (Or.inl ⟨by rfl, ?_⟩) (by assumption) ?_
                   rotate_left
                   · unfold rnp45; intro w hSw; (try dsimp only at hSw); go_simp; try (with_reducible rfl)
                   try simp only [rnp45, Act.put, List.setIfInBounds_toArray, List.set_cons_zero, List.set_cons_succ]
                   refine wpAnyH_take (i := 46) (oi := rnp46) (v := ?_) rfl (by as_aux_lemma => kernel_rfl) (by as_aux_lemma => kernel_rfl) (by as_aux_lemma => kernel_rfl) (fun _ _ _ h => h) (Or.inl ⟨by rfl, ?_⟩) (by assumption) ?_
                   rotate_left
                   · unfold rnp46; intro w hSw; (try dsimp only at hSw); go_simp; try (with_reducible rfl)
                   try simp only [rnp46, Act.put, List.setIfInBounds_toArray, List.set_cons_zero, List.set_cons_succ]
                   refine wpAnyH_done (by kernel_rfl) ?_ _
                   go_wp2_with fail
                   go_meet
                   refine ⟨rfl, ?_⟩
                   repeat (first | exact Below.refl _ _ | refine below_bx2 ?_ _ | refine below_drw ?_ | refine below_to ?_ (by assumption))
            | true =>
              obtain rfl : Sc = true := G4.out rfl
              refine wp_region_held_drew (S := (fun w' => w'.cell? ⟨ka, 0, none⟩ = some (.slice aa qs.length ca) ∧ w'.cell? ⟨kb, 0, none⟩ = some (.slice ab Lb.length cb) ∧ w'.cell? ⟨kb, 2, none⟩ = some (.bool true) ∧ w'.cell? ⟨kc, 0, none⟩ = some (.slice ac Lc.length cc) ∧ w'.cell? ⟨kc, 1, none⟩ = some (.int .i64 Nc) ∧ w'.cell? ⟨kc, 2, none⟩ = some (.bool true) ∧ w'.cell? ⟨kl, 0, none⟩ = some (.int .i64 0))) (by kernel_rfl) ?_ (fun hHeld => ?_)
              · (refine rnd_keep Ba_158 Bb_160 Bc_162 Bl0 ?_; repeat (first | exact Below.refl _ _ | refine below_bx2 ?_ _ | refine below_drw ?_ | refine below_to ?_ (by assumption)))
              refine wpAnyH_take (i := 0) (oi := rnp0) (v := ?_) rfl (by as_aux_lemma => kernel_rfl) (by as_aux_lemma => kernel_rfl) (by as_aux_lemma => kernel_rfl) (fun _ _ _ h => h) (Or.inl ⟨by rfl, ?_⟩) (by assumption) ?_
              rotate_left
              · unfold rnp0; intro w hSw; (try dsimp only at hSw); go_simp; try (with_reducible rfl)
              try simp only [rnp0, Act.put, List.setIfInBounds_toArray, List.set_cons_zero, List.set_cons_succ]
              refine wpAnyH_take (i := 1) (oi := rnp1) (v := ?_) rfl (by as_aux_lemma => kernel_rfl) (by as_aux_lemma => kernel_rfl) (by as_aux_lemma => kernel_rfl) (fun _ _ _ h => h) (Or.inl ⟨by rfl, ?_⟩) (by assumption) ?_
              rotate_left
              · unfold rnp1; intro w hSw; (try dsimp only at hSw); go_simp; try (with_reducible rfl)
              try simp only [rnp1, Act.put, List.setIfInBounds_toArray, List.set_cons_zero, List.set_cons_succ]
              refine wpAnyH_take (i := 2) (oi := rnp2) (v := ?_) rfl (by as_aux_lemma => kernel_rfl) (by as_aux_lemma => kernel_rfl) (by as_aux_lemma => kernel_rfl) (fun _ _ _ h => h) (Or.inl ⟨by rfl, ?_⟩) (by assumption) ?_
              rotate_left
              · unfold rnp2; intro w hSw; (try dsimp only at hSw); go_simp; try (with_reducible rfl)
              try simp only [rnp2, Act.put, List.setIfInBounds_toArray, List.set_cons_zero, List.set_cons_succ]
              refine wpAnyH_take (i := 3) (oi := rnp3) (v := ?_) rfl (by as_aux_lemma => kernel_rfl) (by as_aux_lemma => kernel_rfl) (by as_aux_lemma => kernel_rfl) (fun _ _ _ h => h) (Or.inl ⟨by rfl, ?_⟩) (by assumption) ?_
              rotate_left
              · unfold rnp3; intro w hSw; (try dsimp only at hSw); go_simp; try (with_reducible rfl)
              try simp only [rnp3, Act.put, List.setIfInBounds_toArray, List.set_cons_zero, List.set_cons_succ]
              refine wpAnyH_ready (rs := [4]) (by as_aux_lemma => kernel_rfl) (by simp) ?_
              refine AllReadyH.cons (o := rnp4) rfl (fun K hK => ?_) AllReadyH.nil
              unfold rnp4
              go_simp
              (go_at_call 16; (with_reducible refine (HW1.out _ ?_ ?_).mono ?_); (focus ((refine Hb_159.out.below ?_); repeat (first | exact Below.refl _ _ | refine below_bx2 ?_ _ | refine below_drw ?_ | refine below_to ?_ (by assumption)))); (focus ((refine Ha_157.out.below ?_); repeat (first | exact Below.refl _ _ | refine below_bx2 ?_ _ | refine below_drw ?_ | refine below_to ?_ (by assumption)))); rintro e vv0 ⟨rfl, bw0⟩)
              try go_wp2_with fail
              refine hK.out _ _ ?_ (fun hHeld2 => ?_)
              · (refine rnd_keep Ba_158 Bb_160 Bc_162 Bl0 ?_; repeat (first | exact Below.refl _ _ | refine below_bx2 ?_ _ | refine below_drw ?_ | refine below_to ?_ (by assumption)))
              clear hK K hHeld
              have hHeld := hHeld2
              clear hHeld2
              try simp only [rnp4, Act.put, List.setIfInBounds_toArray, List.set_cons_zero, List.set_cons_succ]
              as_aux_lemma =>
               refine wpAnyH_take (i := 5) (oi := rnp5) (v := ?_) rfl (by as_aux_lemma => kernel_rfl) (by as_aux_lemma => kernel_rfl) (by as_aux_lemma => kernel_rfl) (fun _ _ _ h => h) (Or.inl ⟨by rfl, ?_⟩) (by assumption) ?_
               rotate_left
               · unfold rnp5; intro w hSw; (try dsimp only at hSw); go_simp; try (with_reducible rfl)
               try simp only [rnp5, Act.put, List.setIfInBounds_toArray, List.set_cons_zero, List.set_cons_succ]
               refine wpAnyH_take (i := 6) (oi := rnp6) (v := ?_) rfl (by as_aux_lemma => kernel_rfl) (by as_aux_lemma => kernel_rfl) (by as_aux_lemma => kernel_rfl) (fun _ _ _ h => h) (Or.inl ⟨by rfl, ?_⟩) (by assumption) ?_
               rotate_left
               · unfold rnp6; intro w hSw; (try dsimp only at hSw); go_simp; try (with_reducible rfl)
               try simp only [rnp6, Act.put, List.setIfInBounds_toArray, List.set_cons_zero, List.set_cons_succ]
               refine wpAnyH_take (i := 7) (oi := rnp7) (v := ?_) rfl (by as_aux_lemma => kernel_rfl) (by as_aux_lemma => kernel_rfl) (by as_aux_lemma => kernel_rfl) (fun _ _ _ h => h) (Or.inl ⟨by rfl, ?_⟩) (by assumption) ?_
               rotate_left
               · unfold rnp7; intro w hSw; (try dsimp only at hSw); go_simp; try (with_reducible rfl)
               try simp only [rnp7, Act.put, List.setIfInBounds_toArray, List.set_cons_zero, List.set_cons_succ]
               refine wpAnyH_take (i := 8) (oi := rnp8) (v := ?_) rfl (by as_aux_lemma => kernel_rfl) (by as_aux_lemma => kernel_rfl) (by as_aux_lemma => kernel_rfl) (fun _ _ _ h => h) (Or.inl ⟨by rfl, ?_⟩) (by assumption) ?_
               rotate_left
               · unfold rnp8; intro w hSw; (try dsimp only at hSw); go_simp; try (with_reducible rfl)
               try simp only [rnp8, Act.put, List.setIfInBounds_toArray, List.set_cons_zero, List.set_cons_succ]
               refine wpAnyH_take (i := 9) (oi := rnp9) (v := ?_) rfl (by as_aux_lemma => kernel_rfl) (by as_aux_lemma => kernel_rfl) (by as_aux_lemma => kernel_rfl) (fun _ _ _ h => h) (Or.inl ⟨by rfl, ?_⟩) (by assumption) ?_
               rotate_left
               · unfold rnp9; intro w hSw; (try dsimp only at hSw); go_simp; try (with_reducible rfl)
               try simp only [rnp9, Act.put, List.setIfInBounds_toArray, List.set_cons_zero, List.set_cons_succ]
               refine wpAnyH_take (i := 10) (oi := rnp10) (v := ?_) rfl (by as_aux_lemma => kernel_rfl) (by as_aux_lemma => kernel_rfl) (by as_aux_lemma => kernel_rfl) (fun _ _ _ h => h) (Or.inl ⟨by rfl, ?_⟩) (by assumption) ?_
               rotate_left
               · unfold rnp10; intro w hSw; (try dsimp only at hSw); go_simp; try (with_reducible rfl)
               try simp only [rnp10, Act.put, List.setIfInBounds_toArray, List.set_cons_zero, List.set_cons_succ]
               refine wpAnyH_ready (rs := [11]) (by as_aux_lemma => kernel_rfl) (by simp) ?_
               refine AllReadyH.cons (o := rnp11) rfl (fun K hK => ?_) AllReadyH.nil
               unfold rnp11
               go_simp
               (go_at_call 16; (with_reducible refine (HW2.out _ ?_ ?_).mono ?_); (focus ((refine Hc_161.out.below ?_); repeat (first | exact Below.refl _ _ | refine below_bx2 ?_ _ | refine below_drw ?_ | refine below_to ?_ (by assumption)))); (focus ((refine Hb_159.out.below ?_); repeat (first | exact Below.refl _ _ | refine below_bx2 ?_ _ | refine below_drw ?_ | refine below_to ?_ (by assumption)))); rintro e vv1 ⟨rfl, bw1⟩)
               try go_wp2_with fail
               refine hK.out _ _ ?_ (fun hHeld2 => ?_)
               · (refine rnd_keep Ba_158 Bb_160 Bc_162 Bl0 ?_; repeat (first | exact Below.refl _ _ | refine below_bx2 ?_ _ | refine below_drw ?_ | refine below_to ?_ (by assumption)))
               clear hK K hHeld
               have hHeld := hHeld2
               clear hHeld2
               try simp only [rnp11, Act.put, List.setIfInBounds_toArray, List.set_cons_zero, List.set_cons_succ]
               as_aux_lemma =>
                refine wpAnyH_take (i := 12) (oi := rnp12) (v := ?_) rfl (by as_aux_lemma => kernel_rfl) (by as_aux_lemma => kernel_rfl) (by as_aux_lemma => kernel_rfl) (fun _ _ _ h => h) (Or.inl ⟨by rfl, ?_⟩) (by assumption) ?_
                rotate_left
                · unfold rnp12; intro w hSw; (try dsimp only at hSw); go_simp; try (with_reducible rfl)
                try simp only [rnp12, Act.put, List.setIfInBounds_toArray, List.set_cons_zero, List.set_cons_succ]
                refine wpAnyH_take (i := 13) (oi := rnp13) (v := ?_) rfl (by as_aux_lemma => kernel_rfl) (by as_aux_lemma => kernel_rfl) (by as_aux_lemma => kernel_rfl) (fun _ _ _ h => h) (Or.inl ⟨by rfl, ?_⟩) (by assumption) ?_
                rotate_left
                · unfold rnp13; intro w hSw; (try dsimp only at hSw); go_simp; try (with_reducible rfl)
                try simp only [rnp13, Act.put, List.setIfInBounds_toArray, List.set_cons_zero, List.set_cons_succ]
                refine wpAnyH_take (i := 14) (oi := rnp14) (v := ?_) rfl (by as_aux_lemma => kernel_rfl) (by as_aux_lemma => kernel_rfl) (by as_aux_lemma => kernel_rfl) (fun _ _ _ h => h) (Or.inl ⟨by rfl, ?_⟩) (by assumption) ?_
                rotate_left
                · unfold rnp14; intro w hSw; (try dsimp only at hSw); go_simp; try (with_reducible rfl)
                try simp only [rnp14, Act.put, List.setIfInBounds_toArray, List.set_cons_zero, List.set_cons_succ]
                refine wpAnyH_take (i := 15) (oi := rnp15) (v := ?_) rfl (by as_aux_lemma => kernel_rfl) (by as_aux_lemma => kernel_rfl) (by as_aux_lemma => kernel_rfl) (fun _ _ _ h => h) (Or.inl ⟨by rfl, ?_⟩) (by assumption) ?_
                rotate_left
                · unfold rnp15; intro w hSw; (try dsimp only at hSw); go_simp; try (with_reducible rfl)
                try simp only [rnp15, Act.put, List.setIfInBounds_toArray, List.set_cons_zero, List.set_cons_succ]
                refine wpAnyH_take (i := 16) (oi := rnp16) (v := ?_) rfl (by as_aux_lemma => kernel_rfl) (by as_aux_lemma => kernel_rfl) (by as_aux_lemma => kernel_rfl) (fun _ _ _ h => h) (Or.inl ⟨by rfl, ?_⟩) (by assumption) ?_
                rotate_left
                · unfold rnp16; intro w hSw; (try dsimp only at hSw); go_simp; try (with_reducible rfl)
                try simp only [rnp16, Act.put, List.setIfInBounds_toArray, List.set_cons_zero, List.set_cons_succ]
                refine wpAnyH_take (i := 17) (oi := rnp17) (v := ?_) rfl (by as_aux_lemma => kernel_rfl) (by as_aux_lemma => kernel_rfl) (by as_aux_lemma => kernel_rfl) (fun _ _ _ h => h) (Or.inl ⟨by rfl, ?_⟩) (by assumption) ?_
                rotate_left
                · unfold rnp17; intro w hSw; (try dsimp only at hSw); go_simp; try (with_reducible rfl)
                try simp only [rnp17, Act.put, List.setIfInBounds_toArray, List.set_cons_zero, List.set_cons_succ]
                refine wpAnyH_take (i := 18) (oi := rnp18) (v := ?_) rfl (by as_aux_lemma => kernel_rfl) (by as_aux_lemma => kernel_rfl) (by as_aux_lemma => kernel_rfl) (fun _ _ _ h => h) (Or.inl ⟨by rfl, ?_⟩) (by assumption) ?_
                rotate_left
                · unfold rnp18; intro w hSw; (try dsimp only at hSw); go_simp; try (with_reducible rfl)
                try simp only [rnp18, Act.put, List.setIfInBounds_toArray, List.set_cons_zero, List.set_cons_succ]
                refine wpAnyH_take (i := 19) (oi := rnp19) (v := ?_) rfl (by as_aux_lemma => kernel_rfl) (by as_aux_lemma => kernel_rfl) (by as_aux_lemma => kernel_rfl) (fun _ _ _ h => h) (Or.inl ⟨by rfl, ?_⟩) (by assumption) ?_
                rotate_left
                · unfold rnp19; intro w hSw; (try dsimp only at hSw); go_simp; try (with_reducible rfl)
                try simp only [rnp19, Act.put, List.setIfInBounds_toArray, List.set_cons_zero, List.set_cons_succ]
                refine wpAnyH_take (i := 20) (oi := rnp20) (v := ?_) rfl (by as_aux_lemma => kernel_rfl) (by as_aux_lemma => kernel_rfl) (by as_aux_lemma => kernel_rfl) (fun _ _ _ h => h) (Or.inl ⟨by rfl, ?_⟩) (by assumption) ?_
                rotate_left
                · unfold rnp20; intro w hSw; (try dsimp only at hSw); go_simp; try (with_reducible rfl)
                try simp only [rnp20, Act.put, List.setIfInBounds_toArray, List.set_cons_zero, List.set_cons_succ]
                refine wpAnyH_take (i := 21) (oi := rnp21) (v := ?_) rfl (by as_aux_lemma => kernel_rfl) (by as_aux_lemma => kernel_rfl) (by as_aux_lemma => kernel_rfl) (fun _ _ _ h => h) (Or.inl ⟨by rfl, ?_⟩) (by assumption) ?_
                rotate_left
                · unfold rnp21; intro w hSw; (try dsimp only at hSw); go_simp; try (with_reducible rfl)
                try simp only [rnp21, Act.put, List.setIfInBounds_toArray, List.set_cons_zero, List.set_cons_succ]
                refine wpAnyH_take (i := 22) (oi := rnp22) (v := ?_) rfl (by as_aux_lemma => kernel_rfl) (by as_aux_lemma => kernel_rfl) (by as_aux_lemma => kernel_rfl) (fun _ _ _ h => h) (Or.inl ⟨by rfl, ?_⟩) (by assumption) ?_
                rotate_left
                · unfold rnp22; intro w hSw; (try dsimp only at hSw); go_simp; try (with_reducible rfl)
                try simp only [rnp22, Act.put, List.setIfInBounds_toArray, List.set_cons_zero, List.set_cons_succ]
                refine wpAnyH_take (i := 23) (oi := rnp23) (v := ?_) rfl (by as_aux_lemma => kernel_rfl) (by as_aux_lemma => kernel_rfl) (by as_aux_lemma => kernel_rfl) (fun _ _ _ h => h) (Or.inl ⟨by rfl, ?_⟩) (by assumption) ?_
                rotate_left
                · unfold rnp23; intro w hSw; (try dsimp only at hSw); go_simp; try (with_reducible rfl)
                try simp only [rnp23, Act.put, List.setIfInBounds_toArray, List.set_cons_zero, List.set_cons_succ]
                as_aux_lemma =>
                 refine wpAnyH_take (i := 24) (oi := rnp24) (v := ?_) rfl (by as_aux_lemma => kernel_rfl) (by as_aux_lemma => kernel_rfl) (by as_aux_lemma => kernel_rfl) (fun _ _ _ h => h) (Or.inl ⟨by rfl, ?_⟩) (by assumption) ?_
                 rotate_left
                 · unfold rnp24; intro w hSw; (try dsimp only at hSw); go_simp; try (with_reducible rfl)
                 try simp only [rnp24, Act.put, List.setIfInBounds_toArray, List.set_cons_zero, List.set_cons_succ]
                 refine wpAnyH_take (i := 25) (oi := rnp25) (v := ?_) rfl (by as_aux_lemma => kernel_rfl) (by as_aux_lemma => kernel_rfl) (by as_aux_lemma => kernel_rfl) (fun _ _ _ h => h) (Or.inl ⟨by rfl, ?_⟩) (by assumption) ?_
                 rotate_left
                 · unfold rnp25; intro w hSw; (try dsimp only at hSw); go_simp; try (with_reducible rfl)
                 try simp only [rnp25, Act.put, List.setIfInBounds_toArray, List.set_cons_zero, List.set_cons_succ]
                 refine wpAnyH_take (i := 26) (oi := rnp26) (v := ?_) rfl (by as_aux_lemma => kernel_rfl) (by as_aux_lemma => kernel_rfl) (by as_aux_lemma => kernel_rfl) (fun _ _ _ h => h) (Or.inl ⟨by rfl, ?_⟩) (by assumption) ?_
                 rotate_left
                 · unfold rnp26; intro w hSw; (try dsimp only at hSw); go_simp; try (with_reducible rfl)
                 try simp only [rnp26, Act.put, List.setIfInBounds_toArray, List.set_cons_zero, List.set_cons_succ]
                 refine wpAnyH_take (i := 27) (oi := rnp27) (v := ?_) rfl (by as_aux_lemma => kernel_rfl) (by as_aux_lemma => kernel_rfl) (by as_aux_lemma => kernel_rfl) (fun _ _ _ h => h) (Or.inl ⟨by rfl, ?_⟩) (by assumption) ?_
                 rotate_left
                 · unfold rnp27; intro w hSw; (try dsimp only at hSw); go_simp; try (with_reducible rfl)
                 try simp only [rnp27, Act.put, List.setIfInBounds_toArray, List.set_cons_zero, List.set_cons_succ]
                 refine wpAnyH_take (i := 28) (oi := rnp28) (v := ?_) rfl (by as_aux_lemma => kernel_rfl) (by as_aux_lemma => kernel_rfl) (by as_aux_lemma => kernel_rfl) (fun _ _ _ h => h) (Or.inl ⟨by rfl, ?_⟩) (by assumption) ?_
                 rotate_left
                 · unfold rnp28; intro w hSw; (try dsimp only at hSw); go_simp; try (with_reducible rfl)
                 try simp only [rnp28, Act.put, List.setIfInBounds_toArray, List.set_cons_zero, List.set_cons_succ]
                 refine wpAnyH_take (i := 29) (oi := rnp29) (v := ?_) rfl (by as_aux_lemma => kernel_rfl) (by as_aux_lemma => kernel_rfl) (by as_aux_lemma => kernel_rfl) (fun _ _ _ h => h) (Or.inl ⟨by rfl, ?_⟩) (by assumption) ?_
                 rotate_left
                 · unfold rnp29; intro w hSw; (try dsimp only at hSw); go_simp; try (with_reducible rfl)
                 try simp only [rnp29, Act.put, List.setIfInBounds_toArray, List.set_cons_zero, List.set_cons_succ]
                 refine wpAnyH_take (i := 30) (oi := rnp30) (v := ?_) rfl (by as_aux_lemma => kernel_rfl) (by as_aux_lemma => kernel_rfl) (by as_aux_lemma => kernel_rfl) (fun _ _ _ h => h) (Or.inl ⟨by rfl, ?_⟩) (by assumption) ?_
                 rotate_left
                 · unfold rnp30; intro w hSw; (try dsimp only at hSw); go_simp; try (with_reducible rfl)
                 try simp only [rnp30, Act.put, List.setIfInBounds_toArray, List.set_cons_zero, List.set_cons_succ]
                 refine wpAnyH_take (i := 31) (oi := rnp31) (v := ?_) rfl (by as_aux_lemma => kernel_rfl) (by as_aux_lemma => kernel_rfl) (by as_aux_lemma => kernel_rfl) (fun _ _ _ h => h) (Or.inl ⟨by rfl, ?_⟩) (by assumption) ?_
                 rotate_left
                 · unfold rnp31; intro w hSw; (try dsimp only at hSw); go_simp; try (with_reducible rfl)
                 try simp only [rnp31, Act.put, List.setIfInBounds_toArray, List.set_cons_zero, List.set_cons_succ]
                 refine wpAnyH_take (i := 32) (oi := rnp32) (v := ?_) rfl (by as_aux_lemma => kernel_rfl) (by as_aux_lemma => kernel_rfl) (by as_aux_lemma => kernel_rfl) (fun _ _ _ h => h) (Or.inl ⟨by rfl, ?_⟩) (by assumption) ?_
                 rotate_left
                 · unfold rnp32; intro w hSw; (try dsimp only at hSw); go_simp; try (with_reducible rfl)
                 try simp only [rnp32, Act.put, List.setIfInBounds_toArray, List.set_cons_zero, List.set_cons_succ]
                 refine wpAnyH_take (i := 33) (oi := rnp33) (v := ?_) rfl (by as_aux_lemma => kernel_rfl) (by as_aux_lemma => kernel_rfl) (by as_aux_lemma => kernel_rfl) (fun _ _ _ h => h) (Or.inl ⟨by rfl, ?_⟩) (by assumption) ?_
                 rotate_left
                 · unfold rnp33; intro w hSw; (try dsimp only at hSw); go_simp; try (with_reducible rfl)
                 try simp only [rnp33, Act.put, List.setIfInBounds_toArray, List.set_cons_zero, List.set_cons_succ]
                 refine wpAnyH_take (i := 34) (oi := rnp34) (v := ?_) rfl (by as_aux_lemma => kernel_rfl) (by as_aux_lemma => kernel_rfl) (by as_aux_lemma => kernel_rfl) (fun _ _ _ h => h) (Or.inl ⟨by rfl, ?_⟩) (by assumption) ?_
                 rotate_left
                 · unfold rnp34; intro w hSw; (try dsimp only at hSw); go_simp; try (with_reducible rfl)
                 try simp only [rnp34, Act.put, List.setIfInBounds_toArray, List.set_cons_zero, List.set_cons_succ]
                 refine wpAnyH_take (i := 35) (oi := rnp35) (v := ?_) rfl (by as_aux_lemma => kernel_rfl) (by as_aux_lemma => kernel_rfl) (by as_aux_lemma => kernel_rfl) (fun _ _ _ h => h) (Or.inl ⟨by rfl, ?_⟩) (by assumption) ?_
                 rotate_left
                 · unfold rnp35; intro w hSw; (try dsimp only at hSw); go_simp; try (with_reducible rfl)
                 try simp only [rnp35, Act.put, List.setIfInBounds_toArray, List.set_cons_zero, List.set_cons_succ]
                 as_aux_lemma =>
                  refine wpAnyH_take (i := 36) (oi := rnp36) (v := ?_) rfl (by as_aux_lemma => kernel_rfl) (by as_aux_lemma => kernel_rfl) (by as_aux_lemma => kernel_rfl) (fun _ _ _ h => h) (Or.inl ⟨by rfl, ?_⟩) (by assumption) ?_
                  rotate_left
                  · unfold rnp36; intro w hSw; (try dsimp only at hSw); go_simp; try (with_reducible rfl)
                  try simp only [rnp36, Act.put, List.setIfInBounds_toArray, List.set_cons_zero, List.set_cons_succ]
                  refine wpAnyH_take (i := 37) (oi := rnp37) (v := ?_) rfl (by as_aux_lemma => kernel_rfl) (by as_aux_lemma => kernel_rfl) (by as_aux_lemma => kernel_rfl) (fun _ _ _ h => h) (Or.inl ⟨by rfl, ?_⟩) (by assumption) ?_
                  rotate_left
                  · unfold rnp37; intro w hSw; (try dsimp only at hSw); go_simp; try (with_reducible rfl)
                  try simp only [rnp37, Act.put, List.setIfInBounds_toArray, List.set_cons_zero, List.set_cons_succ]
                  refine wpAnyH_take (i := 38) (oi := rnp38) (v := ?_) rfl (by as_aux_lemma => kernel_rfl) (by as_aux_lemma => kernel_rfl) (by as_aux_lemma => kernel_rfl) (fun _ _ _ h => h) (Or.inl ⟨by rfl, ?_⟩) (by assumption) ?_
                  rotate_left
                  · unfold rnp38; intro w hSw; (try dsimp only at hSw); go_simp; try (with_reducible rfl)
                  try simp only [rnp38, Act.put, List.setIfInBounds_toArray, List.set_cons_zero, List.set_cons_succ]
                  refine wpAnyH_take (i := 39) (oi := rnp39) (v := ?_) rfl (by as_aux_lemma => kernel_rfl) (by as_aux_lemma => kernel_rfl) (by as_aux_lemma => kernel_rfl) (fun _ _ _ h => h) (Or.inl ⟨by rfl, ?_⟩) (by assumption) ?_
                  rotate_left
                  · unfold rnp39; intro w hSw; (try dsimp only at hSw); go_simp; try (with_reducible rfl)
                  try simp only [rnp39, Act.put, List.setIfInBounds_toArray, List.set_cons_zero, List.set_cons_succ]
                  refine wpAnyH_take (i := 40) (oi := rnp40) (v := ?_) rfl (by as_aux_lemma => kernel_rfl) (by as_aux_lemma => kernel_rfl) (by as_aux_lemma => kernel_rfl) (fun _ _ _ h => h) (Or.inl ⟨by rfl, ?_⟩) (by assumption) ?_
                  rotate_left
                  · unfold rnp40; intro w hSw; (try dsimp only at hSw); go_simp; try (with_reducible rfl)
                  try simp only [rnp40, Act.put, List.setIfInBounds_toArray, List.set_cons_zero, List.set_cons_succ]
                  refine wpAnyH_take (i := 41) (oi := rnp41) (v := ?_) rfl (by as_aux_lemma => kernel_rfl) (by as_aux_lemma => kernel_rfl) (by as_aux_lemma => kernel_rfl) (fun _ _ _ h => h) (Or.inl ⟨by rfl, ?_⟩) (by assumption) ?_
                  rotate_left
                  · unfold rnp41; intro w hSw; (try dsimp only at hSw); go_simp; try (with_reducible rfl)
                  try simp only [rnp41, Act.put, List.setIfInBounds_toArray, List.set_cons_zero, List.set_cons_succ]
                  refine wpAnyH_ready (rs := [42]) (by as_aux_lemma => kernel_rfl) (by simp) ?_
                  refine AllReadyH.cons (o := rnp42) rfl (fun K hK => ?_) AllReadyH.nil
                  unfold rnp42
                  go_simp
                  (go_at_call 21; (with_reducible refine (HSM.out _ ?_ ?_).mono ?_); (focus ((refine Ha_157.out.below ?_); repeat (first | exact Below.refl _ _ | refine below_bx2 ?_ _ | refine below_drw ?_ | refine below_to ?_ (by assumption)))); (focus ((refine Hb_159.out.below ?_); repeat (first | exact Below.refl _ _ | refine below_bx2 ?_ _ | refine below_drw ?_ | refine below_to ?_ (by assumption)))); rintro e vv2 ⟨rfl, bw2⟩)
                  try go_wp2_with fail
                  refine hK.out _ _ ?_ (fun hHeld2 => ?_)
                  · (refine rnd_keep Ba_158 Bb_160 Bc_162 Bl0 ?_; repeat (first | exact Below.refl _ _ | refine below_bx2 ?_ _ | refine below_drw ?_ | refine below_to ?_ (by assumption)))
                  clear hK K hHeld
                  have hHeld := hHeld2
                  clear hHeld2
                  try simp only [rnp42, Act.put, List.setIfInBounds_toArray, List.set_cons_zero, List.set_cons_succ]
                  as_aux_lemma =>
                   refine wpAnyH_take (i := 43) (oi := rnp43) (v := ?_) rfl (by as_aux_lemma => kernel_rfl) (by as_aux_lemma => kernel_rfl) (by as_aux_lemma => kernel_rfl) (fun _ _ _ h => h) (Or.inl ⟨by rfl, ?_⟩) (by assumption) ?_
                   rotate_left
                   · unfold rnp43; intro w hSw; (try dsimp only at hSw); go_simp; try (with_reducible rfl)
                   try simp only [rnp43, Act.put, List.setIfInBounds_toArray, List.set_cons_zero, List.set_cons_succ]
                   refine wpAnyH_take (i := 44) (oi := rnp44) (v := ?_) rfl (by as_aux_lemma => kernel_rfl) (by as_aux_lemma => kernel_rfl) (by as_aux_lemma => kernel_rfl) (fun _ _ _ h => h) (Or.inl ⟨by rfl, ?_⟩) (by assumption) ?_
                   rotate_left
                   · unfold rnp44; intro w hSw; (try dsimp only at hSw); go_simp; try (with_reducible rfl)
                   try simp only [rnp44, Act.put, List.setIfInBounds_toArray, List.set_cons_zero, List.set_cons_succ]
                   refine wpAnyH_take (i := 45) (oi := rnp45) (v := ?_) rfl (by as_aux_lemma => kernel_rfl) (by as_aux_lemma => kernel_rfl) (by as_aux_lemma => kernel_rfl) (fun _ _ _ h => h) (Or.inl ⟨by rfl, ?_⟩) (by assumption) ?_
                   rotate_left
                   · unfold rnp45; intro w hSw; (try dsimp only at hSw); go_simp; try (with_reducible rfl)
                   try simp only [rnp45, Act.put, List.setIfInBounds_toArray, List.set_cons_zero, List.set_cons_succ]
                   refine wpAnyH_take (i := 46) (oi := rnp46) (v := ?_) rfl (by as_aux_lemma => kernel_rfl) (by as_aux_lemma => kernel_rfl) (by as_aux_lemma => kernel_rfl) (fun _ _ _ h => h) (Or.inl ⟨by rfl, ?_⟩) (by assumption) ?_
                   rotate_left
                   · unfold rnp46; intro w hSw; (try dsimp only at hSw); go_simp; try (with_reducible rfl)
                   try simp only [rnp46, Act.put, List.setIfInBounds_toArray, List.set_cons_zero, List.set_cons_succ]
                   refine wpAnyH_done (by kernel_rfl) ?_ _
                   go_wp2_with fail
                   go_meet
                   refine ⟨rfl, ?_⟩
                   repeat (first | exact Below.refl _ _ | refine below_bx2 ?_ _ | refine below_drw ?_ | refine below_to ?_ (by assumption))
          · have hne : (NN == 0) = false := eq_b hN0
            rw [decide_eq_false hN0] at HSM
            clear hN0 hn0
            cases Sb with
            | false =>
              refine wp_region_held_drew (S := (fun w' => w'.cell? ⟨ka, 0, none⟩ = some (.slice aa qs.length ca) ∧ w'.cell? ⟨kb, 0, none⟩ = some (.slice ab Lb.length cb) ∧ w'.cell? ⟨kb, 2, none⟩ = some (.bool false) ∧ w'.cell? ⟨kc, 0, none⟩ = some (.slice ac Lc.length cc) ∧ w'.cell? ⟨kc, 1, none⟩ = some (.int .i64 Nc) ∧ w'.cell? ⟨kc, 2, none⟩ = some (.bool Sc) ∧ w'.cell? ⟨kl, 0, none⟩ = some (.int .i64 NN))) (by kernel_rfl) ?_ (fun hHeld => ?_)
              · (refine rnd_keep Ba_158 Bb_160 Bc_162 Bl0 ?_; repeat (first | exact Below.refl _ _ | refine below_bx2 ?_ _ | refine below_drw ?_ | refine below_to ?_ (by assumption)))
              refine wpAnyH_take (i := 0) (oi := rnp0) (v := ?_) rfl (by as_aux_lemma => kernel_rfl) (by as_aux_lemma => kernel_rfl) (by as_aux_lemma => kernel_rfl) (fun _ _ _ h => h) (Or.inl ⟨by rfl, ?_⟩) (by assumption) ?_
              rotate_left
              · unfold rnp0; intro w hSw; (try dsimp only at hSw); go_simp; try (with_reducible rfl)
              try simp only [rnp0, Act.put, List.setIfInBounds_toArray, List.set_cons_zero, List.set_cons_succ]
              refine wpAnyH_take (i := 1) (oi := rnp1) (v := ?_) rfl (by as_aux_lemma => kernel_rfl) (by as_aux_lemma => kernel_rfl) (by as_aux_lemma => kernel_rfl) (fun _ _ _ h => h) (Or.inl ⟨by rfl, ?_⟩) (by assumption) ?_
              rotate_left
              · unfold rnp1; intro w hSw; (try dsimp only at hSw); go_simp; try (with_reducible rfl)
              try simp only [rnp1, Act.put, List.setIfInBounds_toArray, List.set_cons_zero, List.set_cons_succ]
              refine wpAnyH_take (i := 2) (oi := rnp2) (v := ?_) rfl (by as_aux_lemma => kernel_rfl) (by as_aux_lemma => kernel_rfl) (by as_aux_lemma => kernel_rfl) (fun _ _ _ h => h) (Or.inl ⟨by rfl, ?_⟩) (by assumption) ?_
              rotate_left
              · unfold rnp2; intro w hSw; (try dsimp only at hSw); go_simp; try (with_reducible rfl)
              try simp only [rnp2, Act.put, List.setIfInBounds_toArray, List.set_cons_zero, List.set_cons_succ]
              refine wpAnyH_take (i := 3) (oi := rnp3) (v := ?_) rfl (by as_aux_lemma => kernel_rfl) (by as_aux_lemma => kernel_rfl) (by as_aux_lemma => kernel_rfl) (fun _ _ _ h => h) (Or.inl ⟨by rfl, ?_⟩) (by assumption) ?_
              rotate_left
              · unfold rnp3; intro w hSw; (try dsimp only at hSw); go_simp; try (with_reducible rfl)
              try simp only [rnp3, Act.put, List.setIfInBounds_toArray, List.set_cons_zero, List.set_cons_succ]
              refine wpAnyH_ready (rs := [4]) (by as_aux_lemma => kernel_rfl) (by simp) ?_
              refine AllReadyH.cons (o := rnp4) rfl (fun K hK => ?_) AllReadyH.nil
              unfold rnp4
              go_simp
              (go_at_call 16; (with_reducible refine (HW1.out _ ?_ ?_).mono ?_); (focus ((refine Hb_159.out.below ?_); repeat (first | exact Below.refl _ _ | refine below_bx2 ?_ _ | refine below_drw ?_ | refine below_to ?_ (by assumption)))); (focus ((refine Ha_157.out.below ?_); repeat (first | exact Below.refl _ _ | refine below_bx2 ?_ _ | refine below_drw ?_ | refine below_to ?_ (by assumption)))); rintro e vv0 ⟨rfl, bw0⟩)
              try go_wp2_with fail
              refine hK.out _ _ ?_ (fun hHeld2 => ?_)
              · (refine rnd_keep Ba_158 Bb_160 Bc_162 Bl0 ?_; repeat (first | exact Below.refl _ _ | refine below_bx2 ?_ _ | refine below_drw ?_ | refine below_to ?_ (by assumption)))
              clear hK K hHeld
              have hHeld := hHeld2
              clear hHeld2
              try simp only [rnp4, Act.put, List.setIfInBounds_toArray, List.set_cons_zero, List.set_cons_succ]
              as_aux_lemma =>
               refine wpAnyH_take (i := 5) (oi := rnp5) (v := ?_) rfl (by as_aux_lemma => kernel_rfl) (by as_aux_lemma => kernel_rfl) (by as_aux_lemma => kernel_rfl) (fun _ _ _ h => h) (Or.inl ⟨by rfl, ?_⟩) (by assumption) ?_
               rotate_left
               · unfold rnp5; intro w hSw; (try dsimp only at hSw); go_simp; try (with_reducible rfl)
               try simp only [rnp5, Act.put, List.setIfInBounds_toArray, List.set_cons_zero, List.set_cons_succ]
               refine wpAnyH_take (i := 6) (oi := rnp6) (v := ?_) rfl (by as_aux_lemma => kernel_rfl) (by as_aux_lemma => kernel_rfl) (by as_aux_lemma => kernel_rfl) (fun _ _ _ h => h) (Or.inl ⟨by rfl, ?_⟩) (by assumption) ?_
               rotate_left
               · unfold rnp6; intro w hSw; (try dsimp only at hSw); go_simp; try (with_reducible rfl)
               try simp only [rnp6, Act.put, List.setIfInBounds_toArray, List.set_cons_zero, List.set_cons_succ]
               refine wpAnyH_take (i := 7) (oi := rnp7) (v := ?_) rfl (by as_aux_lemma => kernel_rfl) (by as_aux_lemma => kernel_rfl) (by as_aux_lemma => kernel_rfl) (fun _ _ _ h => h) (Or.inl ⟨by rfl, ?_⟩) (by assumption) ?_
               rotate_left
               · unfold rnp7; intro w hSw; (try dsimp only at hSw); go_simp; try (with_reducible rfl)
               try simp only [rnp7, Act.put, List.setIfInBounds_toArray, List.set_cons_zero, List.set_cons_succ]
               refine wpAnyH_take (i := 8) (oi := rnp8) (v := ?_) rfl (by as_aux_lemma => kernel_rfl) (by as_aux_lemma => kernel_rfl) (by as_aux_lemma => kernel_rfl) (fun _ _ _ h => h) (Or.inl ⟨by rfl, ?_⟩) (by assumption) ?_
               rotate_left
               · unfold rnp8; intro w hSw; (try dsimp only at hSw); go_simp; try (with_reducible rfl)
               try simp only [rnp8, Act.put, List.setIfInBounds_toArray, List.set_cons_zero, List.set_cons_succ]
               refine wpAnyH_take (i := 9) (oi := rnp9) (v := ?_) rfl (by as_aux_lemma => kernel_rfl) (by as_aux_lemma => kernel_rfl) (by as_aux_lemma => kernel_rfl) (fun _ _ _ h => h) (Or.inl ⟨by rfl, ?_⟩) (by assumption) ?_
               rotate_left
               · unfold rnp9; intro w hSw; (try dsimp only at hSw); go_simp; try (with_reducible rfl)
               try simp only [rnp9, Act.put, List.setIfInBounds_toArray, List.set_cons_zero, List.set_cons_succ]
               refine wpAnyH_take (i := 10) (oi := rnp10) (v := ?_) rfl (by as_aux_lemma => kernel_rfl) (by as_aux_lemma => kernel_rfl) (by as_aux_lemma => kernel_rfl) (fun _ _ _ h => h) (Or.inl ⟨by rfl, ?_⟩) (by assumption) ?_
               rotate_left
               · unfold rnp10; intro w hSw; (try dsimp only at hSw); go_simp; try (with_reducible rfl)
               try simp only [rnp10, Act.put, List.setIfInBounds_toArray, List.set_cons_zero, List.set_cons_succ]
               refine wpAnyH_ready (rs := [11]) (by as_aux_lemma => kernel_rfl) (by simp) ?_
               refine AllReadyH.cons (o := rnp11) rfl (fun K hK => ?_) AllReadyH.nil
               unfold rnp11
               go_simp
               (go_at_call 16; (with_reducible refine (HW2.out _ ?_ ?_).mono ?_); (focus ((refine Hc_161.out.below ?_); repeat (first | exact Below.refl _ _ | refine below_bx2 ?_ _ | refine below_drw ?_ | refine below_to ?_ (by assumption)))); (focus ((refine Hb_159.out.below ?_); repeat (first | exact Below.refl _ _ | refine below_bx2 ?_ _ | refine below_drw ?_ | refine below_to ?_ (by assumption)))); rintro e vv1 ⟨rfl, bw1⟩)
               try go_wp2_with fail
               refine hK.out _ _ ?_ (fun hHeld2 => ?_)
               · (refine rnd_keep Ba_158 Bb_160 Bc_162 Bl0 ?_; repeat (first | exact Below.refl _ _ | refine below_bx2 ?_ _ | refine below_drw ?_ | refine below_to ?_ (by assumption)))
               clear hK K hHeld
               have hHeld := hHeld2
               clear hHeld2
               try simp only [rnp11, Act.put, List.setIfInBounds_toArray, List.set_cons_zero, List.set_cons_succ]
               as_aux_lemma =>
                refine wpAnyH_take (i := 12) (oi := rnp12) (v := ?_) rfl (by as_aux_lemma => kernel_rfl) (by as_aux_lemma => kernel_rfl) (by as_aux_lemma => kernel_rfl) (fun _ _ _ h => h) (Or.inl ⟨by rfl, ?_⟩) (by assumption) ?_
                rotate_left
                · unfold rnp12; intro w hSw; (try dsimp only at hSw); go_simp; try (with_reducible rfl)
                try simp only [rnp12, Act.put, List.setIfInBounds_toArray, List.set_cons_zero, List.set_cons_succ]
                refine wpAnyH_take (i := 13) (oi := rnp13) (v := ?_) rfl (by as_aux_lemma => kernel_rfl) (by as_aux_lemma => kernel_rfl) (by as_aux_lemma => kernel_rfl) (fun _ _ _ h => h) (Or.inl ⟨by rfl, ?_⟩) (by assumption) ?_
                rotate_left
                · unfold rnp13; intro w hSw; (try dsimp only at hSw); go_simp; try (with_reducible rfl)
                try simp only [rnp13, Act.put, List.setIfInBounds_toArray, List.set_cons_zero, List.set_cons_succ]
                refine wpAnyH_take (i := 14) (oi := rnp14) (v := ?_) rfl (by as_aux_lemma => kernel_rfl) (by as_aux_lemma => kernel_rfl) (by as_aux_lemma => kernel_rfl) (fun _ _ _ h => h) (Or.inl ⟨by rfl, ?_⟩) (by assumption) ?_
                rotate_left
                · unfold rnp14; intro w hSw; (try dsimp only at hSw); go_simp; try (with_reducible rfl)
                try simp only [rnp14, Act.put, List.setIfInBounds_toArray, List.set_cons_zero, List.set_cons_succ]
                refine wpAnyH_take (i := 15) (oi := rnp15) (v := ?_) rfl (by as_aux_lemma => kernel_rfl) (by as_aux_lemma => kernel_rfl) (by as_aux_lemma => kernel_rfl) (fun _ _ _ h => h) (Or.inl ⟨by rfl, ?_⟩) (by assumption) ?_
                rotate_left
                · unfold rnp15; intro w hSw; (try dsimp only at hSw); go_simp; try (with_reducible rfl)
                try simp only [rnp15, Act.put, List.setIfInBounds_toArray, List.set_cons_zero, List.set_cons_succ]
                refine wpAnyH_take (i := 16) (oi := rnp16) (v := ?_) rfl (by as_aux_lemma => kernel_rfl) (by as_aux_lemma => kernel_rfl) (by as_aux_lemma => kernel_rfl) (fun _ _ _ h => h) (Or.inl ⟨by rfl, ?_⟩) (by assumption) ?_
                rotate_left
                · unfold rnp16; intro w hSw; (try dsimp only at hSw); go_simp; try (with_reducible rfl)
                try simp only [rnp16, Act.put, List.setIfInBounds_toArray, List.set_cons_zero, List.set_cons_succ]
                refine wpAnyH_take (i := 17) (oi := rnp17) (v := ?_) rfl (by as_aux_lemma => kernel_rfl) (by as_aux_lemma => kernel_rfl) (by as_aux_lemma => kernel_rfl) (fun _ _ _ h => h) (Or.inl ⟨by rfl, ?_⟩) (by assumption) ?_
                rotate_left
                · unfold rnp17; intro w hSw; (try dsimp only at hSw); go_simp; try (with_reducible rfl)
                try simp only [rnp17, Act.put, List.setIfInBounds_toArray, List.set_cons_zero, List.set_cons_succ]
                refine wpAnyH_take (i := 18) (oi := rnp18) (v := ?_) rfl (by as_aux_lemma => kernel_rfl) (by as_aux_lemma => kernel_rfl) (by as_aux_lemma => kernel_rfl) (fun _ _ _ h => h) (Or.inl ⟨by rfl, ?_⟩) (by assumption) ?_
                rotate_left
                · unfold rnp18; intro w hSw; (try dsimp only at hSw); go_simp; try (with_reducible rfl)
                try simp only [rnp18, Act.put, List.setIfInBounds_toArray, List.set_cons_zero, List.set_cons_succ]
                refine wpAnyH_take (i := 19) (oi := rnp19) (v := ?_) rfl (by as_aux_lemma => kernel_rfl) (by as_aux_lemma => kernel_rfl) (by as_aux_lemma => kernel_rfl) (fun _ _ _ h => h) (Or.inl ⟨by rfl, ?_⟩) (by assumption) ?_
                rotate_left
                · unfold rnp19; intro w hSw; (try dsimp only at hSw); go_simp; try (with_reducible rfl)
                try simp only [rnp19, Act.put, List.setIfInBounds_toArray, List.set_cons_zero, List.set_cons_succ]
                refine wpAnyH_take (i := 20) (oi := rnp20) (v := ?_) rfl (by as_aux_lemma => kernel_rfl) (by as_aux_lemma => kernel_rfl) (by as_aux_lemma => kernel_rfl) (fun _ _ _ h => h) (Or.inl ⟨by rfl, ?_⟩) (by assumption) ?_
                rotate_left
                · unfold rnp20; intro w hSw; (try dsimp only at hSw); go_simp; try (with_reducible rfl)
                try simp only [rnp20, Act.put, List.setIfInBounds_toArray, List.set_cons_zero, List.set_cons_succ]
                refine wpAnyH_take (i := 21) (oi := rnp21) (v := ?_) rfl (by as_aux_lemma => kernel_rfl) (by as_aux_lemma => kernel_rfl) (by as_aux_lemma => kernel_rfl) (fun _ _ _ h => h) (Or.inl ⟨by rfl, ?_⟩) (by assumption) ?_
                rotate_left
                · unfold rnp21; intro w hSw; (try dsimp only at hSw); go_simp; try (with_reducible rfl)
                try simp only [rnp21, Act.put, List.setIfInBounds_toArray, List.set_cons_zero, List.set_cons_succ]
                refine wpAnyH_take (i := 22) (oi := rnp22) (v := ?_) rfl (by as_aux_lemma => kernel_rfl) (by as_aux_lemma => kernel_rfl) (by as_aux_lemma => kernel_rfl) (fun _ _ _ h => h) (Or.inl ⟨by rfl, ?_⟩) (by assumption) ?_
                rotate_left
                · unfold rnp22; intro w hSw; (try dsimp only at hSw); go_simp; try (with_reducible rfl)
                try simp only [rnp22, Act.put, List.setIfInBounds_toArray, List.set_cons_zero, List.set_cons_succ]
                refine wpAnyH_take (i := 23) (oi := rnp23) (v := undef) rfl (by as_aux_lemma => kernel_rfl) (by as_aux_lemma => kernel_rfl) (by as_aux_lemma => kernel_rfl) (fun _ _ _ h => h) (Or.inr ⟨by rfl, rfl⟩) (by assumption) ?_
                try simp only [rnp23, Act.put, List.setIfInBounds_toArray, List.set_cons_zero, List.set_cons_succ]
                refine wpAnyH_take (i := 24) (oi := rnp24) (v := undef) rfl (by as_aux_lemma => kernel_rfl) (by as_aux_lemma => kernel_rfl) (by as_aux_lemma => kernel_rfl) (fun _ _ _ h => h) (Or.inr ⟨by rfl, rfl⟩) (by assumption) ?_
                try simp only [rnp24, Act.put, List.setIfInBounds_toArray, List.set_cons_zero, List.set_cons_succ]
                refine wpAnyH_take (i := 25) (oi := rnp25) (v := undef) rfl (by as_aux_lemma => kernel_rfl) (by as_aux_lemma => kernel_rfl) (by as_aux_lemma => kernel_rfl) (fun _ _ _ h => h) (Or.inr ⟨by rfl, rfl⟩) (by assumption) ?_
                try simp only [rnp25, Act.put, List.setIfInBounds_toArray, List.set_cons_zero, List.set_cons_succ]
                refine wpAnyH_take (i := 26) (oi := rnp26) (v := ?_) rfl (by as_aux_lemma => kernel_rfl) (by as_aux_lemma => kernel_rfl) (by as_aux_lemma => kernel_rfl) (fun _ _ _ h => h) (Or.inl ⟨by rfl, ?_⟩) (by assumption) ?_
                rotate_left
                · unfold rnp26; intro w hSw; (try dsimp only at hSw); go_simp; try (with_reducible rfl)
                try simp only [rnp26, Act.put, List.setIfInBounds_toArray, List.set_cons_zero, List.set_cons_succ]
                as_aux_lemma =>
                 refine wpAnyH_take (i := 27) (oi := rnp27) (v := ?_) rfl (by as_aux_lemma => kernel_rfl) (by as_aux_lemma => kernel_rfl) (by as_aux_lemma => kernel_rfl) (fun _ _ _ h => h) (Or.inl ⟨by rfl, ?_⟩) (by assumption) ?_
                 rotate_left
                 · unfold rnp27; intro w hSw; (try dsimp only at hSw); go_simp; try (with_reducible rfl)
                 try simp only [rnp27, Act.put, List.setIfInBounds_toArray, List.set_cons_zero, List.set_cons_succ]
                 refine wpAnyH_take (i := 28) (oi := rnp28) (v := ?_) rfl (by as_aux_lemma => kernel_rfl) (by as_aux_lemma => kernel_rfl) (by as_aux_lemma => kernel_rfl) (fun _ _ _ h => h) (Or.inl ⟨by rfl, ?_⟩) (by assumption) ?_
                 rotate_left
                 · unfold rnp28; intro w hSw; (try dsimp only at hSw); go_simp; try (with_reducible rfl)
                 try simp only [rnp28, Act.put, List.setIfInBounds_toArray, List.set_cons_zero, List.set_cons_succ]
                 refine wpAnyH_take (i := 29) (oi := rnp29) (v := ?_) rfl (by as_aux_lemma => kernel_rfl) (by as_aux_lemma => kernel_rfl) (by as_aux_lemma => kernel_rfl) (fun _ _ _ h => h) (Or.inl ⟨by rfl, ?_⟩) (by assumption) ?_
                 rotate_left
                 · unfold rnp29; intro w hSw; (try dsimp only at hSw); go_simp; try (with_reducible rfl)
                 try simp only [rnp29, Act.put, List.setIfInBounds_toArray, List.set_cons_zero, List.set_cons_succ]
                 refine wpAnyH_take (i := 30) (oi := rnp30) (v := ?_) rfl (by as_aux_lemma => kernel_rfl) (by as_aux_lemma => kernel_rfl) (by as_aux_lemma => kernel_rfl) (fun _ _ _ h => h) (Or.inl ⟨by rfl, ?_⟩) (by assumption) ?_
                 rotate_left
                 · unfold rnp30; intro w hSw; (try dsimp only at hSw); go_simp; try (with_reducible rfl)
                 try simp only [rnp30, Act.put, List.setIfInBounds_toArray, List.set_cons_zero, List.set_cons_succ]
                 refine wpAnyH_take (i := 31) (oi := rnp31) (v := ?_) rfl (by as_aux_lemma => kernel_rfl) (by as_aux_lemma => kernel_rfl) (by as_aux_lemma => kernel_rfl) (fun _ _ _ h => h) (Or.inl ⟨by rfl, ?_⟩) (by assumption) ?_
                 rotate_left
                 · unfold rnp31; intro w hSw; (try dsimp only at hSw); go_simp; try (with_reducible rfl)
                 try simp only [rnp31, Act.put, List.setIfInBounds_toArray, List.set_cons_zero, List.set_cons_succ]
                 refine wpAnyH_take (i := 32) (oi := rnp32) (v := ?_) rfl (by as_aux_lemma => kernel_rfl) (by as_aux_lemma => kernel_rfl) (by as_aux_lemma => kernel_rfl) (fun _ _ _ h => h) (Or.inl ⟨by rfl, ?_⟩) (by assumption) ?_
                 rotate_left
                 · unfold rnp32; intro w hSw; (try dsimp only at hSw); go_simp; try (with_reducible rfl)
                 try simp only [rnp32, Act.put, List.setIfInBounds_toArray, List.set_cons_zero, List.set_cons_succ]
                 refine wpAnyH_take (i := 33) (oi := rnp33) (v := ?_) rfl (by as_aux_lemma => kernel_rfl) (by as_aux_lemma => kernel_rfl) (by as_aux_lemma => kernel_rfl) (fun _ _ _ h => h) (Or.inl ⟨by rfl, ?_⟩) (by assumption) ?_
                 rotate_left
                 · unfold rnp33; intro w hSw; (try dsimp only at hSw); go_simp; try (with_reducible rfl)
                 try simp only [rnp33, Act.put, List.setIfInBounds_toArray, List.set_cons_zero, List.set_cons_succ]
                 refine wpAnyH_take (i := 34) (oi := rnp34) (v := ?_) rfl (by as_aux_lemma => kernel_rfl) (by as_aux_lemma => kernel_rfl) (by as_aux_lemma => kernel_rfl) (fun _ _ _ h => h) (Or.inl ⟨by rfl, ?_⟩) (by assumption) ?_
                 rotate_left
                 · unfold rnp34; intro w hSw; (try dsimp only at hSw); go_simp; try (with_reducible rfl)
                 try simp only [rnp34, Act.put, List.setIfInBounds_toArray, List.set_cons_zero, List.set_cons_succ]
                 refine wpAnyH_take (i := 35) (oi := rnp35) (v := ?_) rfl (by as_aux_lemma => kernel_rfl) (by as_aux_lemma => kernel_rfl) (by as_aux_lemma => kernel_rfl) (fun _ _ _ h => h) (Or.inl ⟨by rfl, ?_⟩) (by assumption) ?_
                 rotate_left
                 · unfold rnp35; intro w hSw; (try dsimp only at hSw); go_simp; try (with_reducible rfl)
                 try simp only [rnp35, Act.put, List.setIfInBounds_toArray, List.set_cons_zero, List.set_cons_succ]
                 refine wpAnyH_take (i := 36) (oi := rnp36) (v := ?_) rfl (by as_aux_lemma => kernel_rfl) (by as_aux_lemma => kernel_rfl) (by as_aux_lemma => kernel_rfl) (fun _ _ _ h => h) (Or.inl ⟨by rfl, ?_⟩) (by assumption) ?_
                 rotate_left
                 · unfold rnp36; intro w hSw; (try dsimp only at hSw); go_simp; try (with_reducible rfl)
                 try simp only [rnp36, Act.put, List.setIfInBounds_toArray, List.set_cons_zero, List.set_cons_succ]
                 refine wpAnyH_take (i := 37) (oi := rnp37) (v := ?_) rfl (by as_aux_lemma => kernel_rfl) (by as_aux_lemma => kernel_rfl) (by as_aux_lemma => kernel_rfl) (fun _ _ _ h => h) (Or.inl ⟨by rfl, ?_⟩) (by assumption) ?_
                 rotate_left
                 · unfold rnp37; intro w hSw; (try dsimp only at hSw); go_simp; try (with_reducible rfl)
                 try simp only [rnp37, Act.put, List.setIfInBounds_toArray, List.set_cons_zero, List.set_cons_succ]
                 refine wpAnyH_take (i := 38) (oi := rnp38) (v := ?_) rfl (by as_aux_lemma => kernel_rfl) (by as_aux_lemma => kernel_rfl) (by as_aux_lemma => kernel_rfl) (fun _ _ _ h => h) (Or.inl ⟨by rfl, ?_⟩) (by assumption) ?_
                 rotate_left
                 · unfold rnp38; intro w hSw; (try dsimp only at hSw); go_simp; try (with_reducible rfl)
                 try simp only [rnp38, Act.put, List.setIfInBounds_toArray, List.set_cons_zero, List.set_cons_succ]
                 as_aux_lemma =>
                  refine wpAnyH_take (i := 39) (oi := rnp39) (v := ?_) rfl (by as_aux_lemma => kernel_rfl) (by as_aux_lemma => kernel_rfl) (by as_aux_lemma => kernel_rfl) (fun _ _ _ h => h) (Or.inl ⟨by rfl, ?_⟩) (by assumption) ?_
                  rotate_left
                  · unfold rnp39; intro w hSw; (try dsimp only at hSw); go_simp; try (with_reducible rfl)
                  try simp only [rnp39, Act.put, List.setIfInBounds_toArray, List.set_cons_zero, List.set_cons_succ]
                  refine wpAnyH_take (i := 40) (oi := rnp40) (v := ?_) rfl (by as_aux_lemma => kernel_rfl) (by as_aux_lemma => kernel_rfl) (by as_aux_lemma => kernel_rfl) (fun _ _ _ h => h) (Or.inl ⟨by rfl, ?_⟩) (by assumption) ?_
                  rotate_left
                  · unfold rnp40; intro w hSw; (try dsimp only at hSw); go_simp; try (with_reducible rfl)
                  try simp only [rnp40, Act.put, List.setIfInBounds_toArray, List.set_cons_zero, List.set_cons_succ]
                  refine wpAnyH_take (i := 41) (oi := rnp41) (v := ?_) rfl (by as_aux_lemma => kernel_rfl) (by as_aux_lemma => kernel_rfl) (by as_aux_lemma => kernel_rfl) (fun _ _ _ h => h) (Or.inl ⟨by rfl, ?_⟩) (by assumption) ?_
                  rotate_left
                  · unfold rnp41; intro w hSw; (try dsimp only at hSw); go_simp; try (with_reducible rfl)
                  try simp only [rnp41, Act.put, List.setIfInBounds_toArray, List.set_cons_zero, List.set_cons_succ]
                  refine wpAnyH_ready (rs := [42]) (by as_aux_lemma => kernel_rfl) (by simp) ?_
                  refine AllReadyH.cons (o := rnp42) rfl (fun K hK => ?_) AllReadyH.nil
                  unfold rnp42
                  go_simp
                  (go_at_call 21; (with_reducible refine (HSM.out _ ?_ ?_).mono ?_); (focus ((refine Ha_157.out.below ?_); repeat (first | exact Below.refl _ _ | refine below_bx2 ?_ _ | refine below_drw ?_ | refine below_to ?_ (by assumption)))); (focus ((refine Hb_159.out.below ?_); repeat (first | exact Below.refl _ _ | refine below_bx2 ?_ _ | refine below_drw ?_ | refine below_to ?_ (by assumption)))); rintro e vv2 ⟨rfl, bw2⟩)
                  try go_wp2_with fail
                  refine hK.out _ _ ?_ (fun hHeld2 => ?_)
                  · (refine rnd_keep Ba_158 Bb_160 Bc_162 Bl0 ?_; repeat (first | exact Below.refl _ _ | refine below_bx2 ?_ _ | refine below_drw ?_ | refine below_to ?_ (by assumption)))
                  clear hK K hHeld
                  have hHeld := hHeld2
                  clear hHeld2
                  try simp only [rnp42, Act.put, List.setIfInBounds_toArray, List.set_cons_zero, List.set_cons_succ]
                  as_aux_lemma =>
                   refine wpAnyH_take (i := 43) (oi := rnp43) (v := ?_) rfl (by as_aux_lemma => kernel_rfl) (by as_aux_lemma => kernel_rfl) (by as_aux_lemma => kernel_rfl) (fun _ _ _ h => h) (Or.inl ⟨by rfl, ?_⟩) (by assumption) ?_
                   rotate_left
                   · unfold rnp43; intro w hSw; (try dsimp only at hSw); go_simp; try (with_reducible rfl)
                   try simp only [rnp43, Act.put, List.setIfInBounds_toArray, List.set_cons_zero, List.set_cons_succ]
                   refine wpAnyH_take (i := 44) (oi := rnp44) (v := ?_) rfl (by as_aux_lemma => kernel_rfl) (by as_aux_lemma => kernel_rfl) (by as_aux_lemma => kernel_rfl) (fun _ _ _ h => h) (Or.inl ⟨by rfl, ?_⟩) (by assumption) ?_
                   rotate_left
                   · unfold rnp44; intro w hSw; (try dsimp only at hSw); go_simp; try (with_reducible rfl)
                   try simp only [rnp44, Act.put, List.setIfInBounds_toArray, List.set_cons_zero, List.set_cons_succ]
                   refine wpAnyH_take (i := 45) (oi := rnp45) (v := ?_) rfl (by as_aux_lemma => kernel_rfl) (by as_aux_lemma => kernel_rfl) (by as_aux_lemma => kernel_rfl) (fun _ _ _ h => h) (Or.inl ⟨by rfl, ?_⟩) (by assumption) ?_
                   rotate_left
                   · unfold rnp45; intro w hSw; (try dsimp only at hSw); go_simp; try (with_reducible rfl)
                   try simp only [rnp45, Act.put, List.setIfInBounds_toArray, List.set_cons_zero, List.set_cons_succ]
                   refine wpAnyH_take (i := 46) (oi := rnp46) (v := ?_) rfl (by as_aux_lemma => kernel_rfl) (by as_aux_lemma => kernel_rfl) (by as_aux_lemma => kernel_rfl) (fun _ _ _ h => h) (Or.inl ⟨by rfl, ?_⟩) (by assumption) ?_
                   rotate_left
                   · unfold rnp46; intro w hSw; (try dsimp only at hSw); go_simp; try (with_reducible rfl)
                   try simp only [rnp46, Act.put, List.setIfInBounds_toArray, List.set_cons_zero, List.set_cons_succ]
                   refine wpAnyH_done (by kernel_rfl) ?_ _
                   go_wp2_with fail
                   go_meet
                   refine ⟨rfl, ?_⟩
                   repeat (first | exact Below.refl _ _ | refine below_bx2 ?_ _ | refine below_drw ?_ | refine below_to ?_ (by assumption))
            | true =>
              obtain rfl : Sc = true := G4.out rfl
              refine wp_region_held_drew (S := (fun w' => w'.cell? ⟨ka, 0, none⟩ = some (.slice aa qs.length ca) ∧ w'.cell? ⟨kb, 0, none⟩ = some (.slice ab Lb.length cb) ∧ w'.cell? ⟨kb, 2, none⟩ = some (.bool true) ∧ w'.cell? ⟨kc, 0, none⟩ = some (.slice ac Lc.length cc) ∧ w'.cell? ⟨kc, 1, none⟩ = some (.int .i64 Nc) ∧ w'.cell? ⟨kc, 2, none⟩ = some (.bool true) ∧ w'.cell? ⟨kl, 0, none⟩ = some (.int .i64 NN))) (by kernel_rfl) ?_ (fun hHeld => ?_)
              · (refine rnd_keep Ba_158 Bb_160 Bc_162 Bl0 ?_; repeat (first | exact Below.refl _ _ | refine below_bx2 ?_ _ | refine below_drw ?_ | refine below_to ?_ (by assumption)))
              refine wpAnyH_take (i := 0) (oi := rnp0) (v := ?_) rfl (by as_aux_lemma => kernel_rfl) (by as_aux_lemma => kernel_rfl) (by as_aux_lemma => kernel_rfl) (fun _ _ _ h => h) (Or.inl ⟨by rfl, ?_⟩) (by assumption) ?_
              rotate_left
              · unfold rnp0; intro w hSw; (try dsimp only at hSw); go_simp; try (with_reducible rfl)
              try simp only [rnp0, Act.put, List.setIfInBounds_toArray, List.set_cons_zero, List.set_cons_succ]
              refine wpAnyH_take (i := 1) (oi := rnp1) (v := ?_) rfl (by as_aux_lemma => kernel_rfl) (by as_aux_lemma => kernel_rfl) (by as_aux_lemma => kernel_rfl) (fun _ _ _ h => h) (Or.inl ⟨by rfl, ?_⟩) (by assumption) ?_
              rotate_left
              · unfold rnp1; intro w hSw; (try dsimp only at hSw); go_simp; try (with_reducible rfl)
              try simp only [rnp1, Act.put, List.setIfInBounds_toArray, List.set_cons_zero, List.set_cons_succ]
              refine wpAnyH_take (i := 2) (oi := rnp2) (v := ?_) rfl (by as_aux_lemma => kernel_rfl) (by as_aux_lemma => kernel_rfl) (by as_aux_lemma => kernel_rfl) (fun _ _ _ h => h) (Or.inl ⟨by rfl, ?_⟩) (by assumption) ?_
              rotate_left
              · unfold rnp2; intro w hSw; (try dsimp only at hSw); go_simp; try (with_reducible rfl)
              try simp only [rnp2, Act.put, List.setIfInBounds_toArray, List.set_cons_zero, List.set_cons_succ]
              refine wpAnyH_take (i := 3) (oi := rnp3) (v := ?_) rfl (by as_aux_lemma => kernel_rfl) (by as_aux_lemma => kernel_rfl) (by as_aux_lemma => kernel_rfl) (fun _ _ _ h => h) (Or.inl ⟨by rfl, ?_⟩) (by assumption) ?_
              rotate_left
              · unfold rnp3; intro w hSw; (try dsimp only at hSw); go_simp; try (with_reducible rfl)
              try simp only [rnp3, Act.put, List.setIfInBounds_toArray, List.set_cons_zero, List.set_cons_succ]
              refine wpAnyH_ready (rs := [4]) (by as_aux_lemma => kernel_rfl) (by simp) ?_
              refine AllReadyH.cons (o := rnp4) rfl (fun K hK => ?_) AllReadyH.nil
              unfold rnp4
              go_simp
              (go_at_call 16; (with_reducible refine (HW1.out _ ?_ ?_).mono ?_); (focus ((refine Hb_159.out.below ?_); repeat (first | exact Below.refl _ _ | refine below_bx2 ?_ _ | refine below_drw ?_ | refine below_to ?_ (by assumption)))); (focus ((refine Ha_157.out.below ?_); repeat (first | exact Below.refl _ _ | refine below_bx2 ?_ _ | refine below_drw ?_ | refine below_to ?_ (by assumption)))); rintro e vv0 ⟨rfl, bw0⟩)
              try go_wp2_with fail
              refine hK.out _ _ ?_ (fun hHeld2 => ?_)
              · (refine rnd_keep Ba_158 Bb_160 Bc_162 Bl0 ?_; repeat (first | exact Below.refl _ _ | refine below_bx2 ?_ _ | refine below_drw ?_ | refine below_to ?_ (by assumption)))
              clear hK K hHeld
              have hHeld := hHeld2
              clear hHeld2
              try simp only [rnp4, Act.put, List.setIfInBounds_toArray, List.set_cons_zero, List.set_cons_succ]
              as_aux_lemma =>
               refine wpAnyH_take (i := 5) (oi := rnp5) (v := ?_) rfl (by as_aux_lemma => kernel_rfl) (by as_aux_lemma => kernel_rfl) (by as_aux_lemma => kernel_rfl) (fun _ _ _ h => h) (Or.inl ⟨by rfl, ?_⟩) (by assumption) ?_
               rotate_left
               · unfold rnp5; intro w hSw; (try dsimp only at hSw); go_simp; try (with_reducible rfl)
               try simp only [rnp5, Act.put, List.setIfInBounds_toArray, List.set_cons_zero, List.set_cons_succ]
               refine wpAnyH_take (i := 6) (oi := rnp6) (v := ?_) rfl (by as_aux_lemma => kernel_rfl) (by as_aux_lemma => kernel_rfl) (by as_aux_lemma => kernel_rfl) (fun _ _ _ h => h) (Or.inl ⟨by rfl, ?_⟩) (by assumption) ?_
               rotate_left
               · unfold rnp6; intro w hSw; (try dsimp only at hSw); go_simp; try (with_reducible rfl)
               try simp only [rnp6, Act.put, List.setIfInBounds_toArray, List.set_cons_zero, List.set_cons_succ]
               refine wpAnyH_take (i := 7) (oi := rnp7) (v := ?_) rfl (by as_aux_lemma => kernel_rfl) (by as_aux_lemma => kernel_rfl) (by as_aux_lemma => kernel_rfl) (fun _ _ _ h => h) (Or.inl ⟨by rfl, ?_⟩) (by assumption) ?_
               rotate_left
               · unfold rnp7; intro w hSw; (try dsimp only at hSw); go_simp; try (with_reducible rfl)
               try simp only [rnp7, Act.put, List.setIfInBounds_toArray, List.set_cons_zero, List.set_cons_succ]
               refine wpAnyH_take (i := 8) (oi := rnp8) (v := ?_) rfl (by as_aux_lemma => kernel_rfl) (by as_aux_lemma => kernel_rfl) (by as_aux_lemma => kernel_rfl) (fun _ _ _ h => h) (Or.inl ⟨by rfl, ?_⟩) (by assumption) ?_
               rotate_left
               · unfold rnp8; intro w hSw; (try dsimp only at hSw); go_simp; try (with_reducible rfl)
               try simp only [rnp8, Act.put, List.setIfInBounds_toArray, List.set_cons_zero, List.set_cons_succ]
               refine wpAnyH_take (i := 9) (oi := rnp9) (v := ?_) rfl (by as_aux_lemma => kernel_rfl) (by as_aux_lemma => kernel_rfl) (by as_aux_lemma => kernel_rfl) (fun _ _ _ h => h) (Or.inl ⟨by rfl, ?_⟩) (by assumption) ?_
               rotate_left
               · unfold rnp9; intro w hSw; (try dsimp only at hSw); go_simp; try (with_reducible rfl)
               try simp only [rnp9, Act.put, List.setIfInBounds_toArray, List.set_cons_zero, List.set_cons_succ]
               refine wpAnyH_take (i := 10) (oi := rnp10) (v := ?_) rfl (by as_aux_lemma => kernel_rfl) (by as_aux_lemma => kernel_rfl) (by as_aux_lemma => kernel_rfl) (fun _ _ _ h => h) (Or.inl ⟨by rfl, ?_⟩) (by assumption) ?_
               rotate_left
               · unfold rnp10; intro w hSw; (try dsimp only at hSw); go_simp; try (with_reducible rfl)
               try simp only [rnp10, Act.put, List.setIfInBounds_toArray, List.set_cons_zero, List.set_cons_succ]
               refine wpAnyH_ready (rs := [11]) (by as_aux_lemma => kernel_rfl) (by simp) ?_
               refine AllReadyH.cons (o := rnp11) rfl (fun K hK => ?_) AllReadyH.nil
               unfold rnp11
               go_simp
               (go_at_call 16; (with_reducible refine (HW2.out _ ?_ ?_).mono ?_); (focus ((refine Hc_161.out.below ?_); repeat (first | exact Below.refl _ _ | refine below_bx2 ?_ _ | refine below_drw ?_ | refine below_to ?_ (by assumption)))); (focus ((refine Hb_159.out.below ?_); repeat (first | exact Below.refl _ _ | refine below_bx2 ?_ _ | refine below_drw ?_ | refine below_to ?_ (by assumption)))); rintro e vv1 ⟨rfl, bw1⟩)
               try go_wp2_with fail
               refine hK.out _ _ ?_ (fun hHeld2 => ?_)
               · (refine rnd_keep Ba_158 Bb_160 Bc_162 Bl0 ?_; repeat (first | exact Below.refl _ _ | refine below_bx2 ?_ _ | refine below_drw ?_ | refine below_to ?_ (by assumption)))
               clear hK K hHeld
               have hHeld := hHeld2
               clear hHeld2
               try simp only [rnp11, Act.put, List.setIfInBounds_toArray, List.set_cons_zero, List.set_cons_succ]
               as_aux_lemma =>
                refine wpAnyH_take (i := 12) (oi := rnp12) (v := ?_) rfl (by as_aux_lemma => kernel_rfl) (by as_aux_lemma => kernel_rfl) (by as_aux_lemma => kernel_rfl) (fun _ _ _ h => h) (Or.inl ⟨by rfl, ?_⟩) (by assumption) ?_
                rotate_left
                · unfold rnp12; intro w hSw; (try dsimp only at hSw); go_simp; try (with_reducible rfl)
                try simp only [rnp12, Act.put, List.setIfInBounds_toArray, List.set_cons_zero, List.set_cons_succ]
                refine wpAnyH_take (i := 13) (oi := rnp13) (v := ?_) rfl (by as_aux_lemma => kernel_rfl) (by as_aux_lemma => kernel_rfl) (by as_aux_lemma => kernel_rfl) (fun _ _ _ h => h) (Or.inl ⟨by rfl, ?_⟩) (by assumption) ?_
                rotate_left
                · unfold rnp13; intro w hSw; (try dsimp only at hSw); go_simp; try (with_reducible rfl)
                try simp only [rnp13, Act.put, List.setIfInBounds_toArray, List.set_cons_zero, List.set_cons_succ]
                refine wpAnyH_take (i := 14) (oi := rnp14) (v := ?_) rfl (by as_aux_lemma => kernel_rfl) (by as_aux_lemma => kernel_rfl) (by as_aux_lemma => kernel_rfl) (fun _ _ _ h => h) (Or.inl ⟨by rfl, ?_⟩) (by assumption) ?_
                rotate_left
                · unfold rnp14; intro w hSw; (try dsimp only at hSw); go_simp; try (with_reducible rfl)
                try simp only [rnp14, Act.put, List.setIfInBounds_toArray, List.set_cons_zero, List.set_cons_succ]
                refine wpAnyH_take (i := 15) (oi := rnp15) (v := ?_) rfl (by as_aux_lemma => kernel_rfl) (by as_aux_lemma => kernel_rfl) (by as_aux_lemma => kernel_rfl) (fun _ _ _ h => h) (Or.inl ⟨by rfl, ?_⟩) (by assumption) ?_
                rotate_left
                · unfold rnp15; intro w hSw; (try dsimp only at hSw); go_simp; try (with_reducible rfl)
                try simp only [rnp15, Act.put, List.setIfInBounds_toArray, List.set_cons_zero, List.set_cons_succ]
                refine wpAnyH_take (i := 16) (oi := rnp16) (v := ?_) rfl (by as_aux_lemma => kernel_rfl) (by as_aux_lemma => kernel_rfl) (by as_aux_lemma => kernel_rfl) (fun _ _ _ h => h) (Or.inl ⟨by rfl, ?_⟩) (by assumption) ?_
                rotate_left
                · unfold rnp16; intro w hSw; (try dsimp only at hSw); go_simp; try (with_reducible rfl)
                try simp only [rnp16, Act.put, List.setIfInBounds_toArray, List.set_cons_zero, List.set_cons_succ]
                refine wpAnyH_take (i := 17) (oi := rnp17) (v := ?_) rfl (by as_aux_lemma => kernel_rfl) (by as_aux_lemma => kernel_rfl) (by as_aux_lemma => kernel_rfl) (fun _ _ _ h => h) (Or.inl ⟨by rfl, ?_⟩) (by assumption) ?_
                rotate_left
                · unfold rnp17; intro w hSw; (try dsimp only at hSw); go_simp; try (with_reducible rfl)
                try simp only [rnp17, Act.put, List.setIfInBounds_toArray, List.set_cons_zero, List.set_cons_succ]
                refine wpAnyH_take (i := 18) (oi := rnp18) (v := ?_) rfl (by as_aux_lemma => kernel_rfl) (by as_aux_lemma => kernel_rfl) (by as_aux_lemma => kernel_rfl) (fun _ _ _ h => h) (Or.inl ⟨by rfl, ?_⟩) (by assumption) ?_
                rotate_left
                · unfold rnp18; intro w hSw; (try dsimp only at hSw); go_simp; try (with_reducible rfl)
                try simp only [rnp18, Act.put, List.setIfInBounds_toArray, List.set_cons_zero, List.set_cons_succ]
                refine wpAnyH_take (i := 19) (oi := rnp19) (v := ?_) rfl (by as_aux_lemma => kernel_rfl) (by as_aux_lemma => kernel_rfl) (by as_aux_lemma => kernel_rfl) (fun _ _ _ h => h) (Or.inl ⟨by rfl, ?_⟩) (by assumption) ?_
                rotate_left
                · unfold rnp19; intro w hSw; (try dsimp only at hSw); go_simp; try (with_reducible rfl)
                try simp only [rnp19, Act.put, List.setIfInBounds_toArray, List.set_cons_zero, List.set_cons_succ]
                refine wpAnyH_take (i := 20) (oi := rnp20) (v := ?_) rfl (by as_aux_lemma => kernel_rfl) (by as_aux_lemma => kernel_rfl) (by as_aux_lemma => kernel_rfl) (fun _ _ _ h => h) (Or.inl ⟨by rfl, ?_⟩) (by assumption) ?_
                rotate_left
                · unfold rnp20; intro w hSw; (try dsimp only at hSw); go_simp; try (with_reducible rfl)
                try simp only [rnp20, Act.put, List.setIfInBounds_toArray, List.set_cons_zero, List.set_cons_succ]
                refine wpAnyH_take (i := 21) (oi := rnp21) (v := ?_) rfl (by as_aux_lemma => kernel_rfl) (by as_aux_lemma => kernel_rfl) (by as_aux_lemma => kernel_rfl) (fun _ _ _ h => h) (Or.inl ⟨by rfl, ?_⟩) (by assumption) ?_
                rotate_left
                · unfold rnp21; intro w hSw; (try dsimp only at hSw); go_simp; try (with_reducible rfl)
                try simp only [rnp21, Act.put, List.setIfInBounds_toArray, List.set_cons_zero, List.set_cons_succ]
                refine wpAnyH_take (i := 22) (oi := rnp22) (v := ?_) rfl (by as_aux_lemma => kernel_rfl) (by as_aux_lemma => kernel_rfl) (by as_aux_lemma => kernel_rfl) (fun _ _ _ h => h) (Or.inl ⟨by rfl, ?_⟩) (by assumption) ?_
                rotate_left
                · unfold rnp22; intro w hSw; (try dsimp only at hSw); go_simp; try (with_reducible rfl)
                try simp only [rnp22, Act.put, List.setIfInBounds_toArray, List.set_cons_zero, List.set_cons_succ]
                refine wpAnyH_take (i := 23) (oi := rnp23) (v := ?_) rfl (by as_aux_lemma => kernel_rfl) (by as_aux_lemma => kernel_rfl) (by as_aux_lemma => kernel_rfl) (fun _ _ _ h => h) (Or.inl ⟨by rfl, ?_⟩) (by assumption) ?_
                rotate_left
                · unfold rnp23; intro w hSw; (try dsimp only at hSw); go_simp; try (with_reducible rfl)
                try simp only [rnp23, Act.put, List.setIfInBounds_toArray, List.set_cons_zero, List.set_cons_succ]
                as_aux_lemma =>
                 refine wpAnyH_take (i := 24) (oi := rnp24) (v := ?_) rfl (by as_aux_lemma => kernel_rfl) (by as_aux_lemma => kernel_rfl) (by as_aux_lemma => kernel_rfl) (fun _ _ _ h => h) (Or.inl ⟨by rfl, ?_⟩) (by assumption) ?_
                 rotate_left
                 · unfold rnp24; intro w hSw; (try dsimp only at hSw); go_simp; try (with_reducible rfl)
                 try simp only [rnp24, Act.put, List.setIfInBounds_toArray, List.set_cons_zero, List.set_cons_succ]
                 refine wpAnyH_take (i := 25) (oi := rnp25) (v := ?_) rfl (by as_aux_lemma => kernel_rfl) (by as_aux_lemma => kernel_rfl) (by as_aux_lemma => kernel_rfl) (fun _ _ _ h => h) (Or.inl ⟨by rfl, ?_⟩) (by assumption) ?_
                 rotate_left
                 · unfold rnp25; intro w hSw; (try dsimp only at hSw); go_simp; try (with_reducible rfl)
                 try simp only [rnp25, Act.put, List.setIfInBounds_toArray, List.set_cons_zero, List.set_cons_succ]
                 refine wpAnyH_take (i := 26) (oi := rnp26) (v := ?_) rfl (by as_aux_lemma => kernel_rfl) (by as_aux_lemma => kernel_rfl) (by as_aux_lemma => kernel_rfl) (fun _ _ _ h => h) (Or.inl ⟨by rfl, ?_⟩) (by assumption) ?_
                 rotate_left
                 · unfold rnp26; intro w hSw; (try dsimp only at hSw); go_simp; try (with_reducible rfl)
                 try simp only [rnp26, Act.put, List.setIfInBounds_toArray, List.set_cons_zero, List.set_cons_succ]
                 refine wpAnyH_take (i := 27) (oi := rnp27) (v := ?_) rfl (by as_aux_lemma => kernel_rfl) (by as_aux_lemma => kernel_rfl) (by as_aux_lemma => kernel_rfl) (fun _ _ _ h => h) (Or.inl ⟨by rfl, ?_⟩) (by assumption) ?_
                 rotate_left
                 · unfold rnp27; intro w hSw; (try dsimp only at hSw); go_simp; try (with_reducible rfl)
                 try simp only [rnp27, Act.put, List.setIfInBounds_toArray, List.set_cons_zero, List.set_cons_succ]
                 refine wpAnyH_take (i := 28) (oi := rnp28) (v := ?_) rfl (by as_aux_lemma => kernel_rfl) (by as_aux_lemma => kernel_rfl) (by as_aux_lemma => kernel_rfl) (fun _ _ _ h => h) (Or.inl ⟨by rfl, ?_⟩) (by assumption) ?_
                 rotate_left
                 · unfold rnp28; intro w hSw; (try dsimp only at hSw); go_simp; try (with_reducible rfl)
                 try simp only [rnp28, Act.put, List.setIfInBounds_toArray, List.set_cons_zero, List.set_cons_succ]
                 refine wpAnyH_take (i := 29) (oi := rnp29) (v := ?_) rfl (by as_aux_lemma => kernel_rfl) (by as_aux_lemma => kernel_rfl) (by as_aux_lemma => kernel_rfl) (fun _ _ _ h => h) (Or.inl ⟨by rfl, ?_⟩) (by assumption) ?_
                 rotate_left
                 · unfold rnp29; intro w hSw; (try dsimp only at hSw); go_simp; try (with_reducible rfl)
                 try simp only [rnp29, Act.put, List.setIfInBounds_toArray, List.set_cons_zero, List.set_cons_succ]
                 refine wpAnyH_take (i := 30) (oi := rnp30) (v := ?_) rfl (by as_aux_lemma => kernel_rfl) (by as_aux_lemma => kernel_rfl) (by as_aux_lemma => kernel_rfl) (fun _ _ _ h => h) (Or.inl ⟨by rfl, ?_⟩) (by assumption) ?_
                 rotate_left
                 · unfold rnp30; intro w hSw; (try dsimp only at hSw); go_simp; try (with_reducible rfl)
                 try simp only [rnp30, Act.put, List.setIfInBounds_toArray, List.set_cons_zero, List.set_cons_succ]
                 refine wpAnyH_take (i := 31) (oi := rnp31) (v := ?_) rfl (by as_aux_lemma => kernel_rfl) (by as_aux_lemma => kernel_rfl) (by as_aux_lemma => kernel_rfl) (fun _ _ _ h => h) (Or.inl ⟨by rfl, ?_⟩) (by assumption) ?_
                 rotate_left
                 · unfold rnp31; intro w hSw; (try dsimp only at hSw); go_simp; try (with_reducible rfl)
                 try simp only [rnp31, Act.put, List.setIfInBounds_toArray, List.set_cons_zero, List.set_cons_succ]
                 refine wpAnyH_take (i := 32) (oi := rnp32) (v := ?_) rfl (by as_aux_lemma => kernel_rfl) (by as_aux_lemma => kernel_rfl) (by as_aux_lemma => kernel_rfl) (fun _ _ _ h => h) (Or.inl ⟨by rfl, ?_⟩) (by assumption) ?_
                 rotate_left
                 · unfold rnp32; intro w hSw; (try dsimp only at hSw); go_simp; try (with_reducible rfl)
                 try simp only [rnp32, Act.put, List.setIfInBounds_toArray, List.set_cons_zero, List.set_cons_succ]
                 refine wpAnyH_take (i := 33) (oi := rnp33) (v := ?_) rfl (by as_aux_lemma => kernel_rfl) (by as_aux_lemma => kernel_rfl) (by as_aux_lemma => kernel_rfl) (fun _ _ _ h => h) (Or.inl ⟨by rfl, ?_⟩) (by assumption) ?_
                 rotate_left
                 · unfold rnp33; intro w hSw; (try dsimp only at hSw); go_simp; try (with_reducible rfl)
                 try simp only [rnp33, Act.put, List.setIfInBounds_toArray, List.set_cons_zero, List.set_cons_succ]
                 refine wpAnyH_take (i := 34) (oi := rnp34) (v := ?_) rfl (by as_aux_lemma => kernel_rfl) (by as_aux_lemma => kernel_rfl) (by as_aux_lemma => kernel_rfl) (fun _ _ _ h => h) (Or.inl ⟨by rfl, ?_⟩) (by assumption) ?_
                 rotate_left
                 · unfold rnp34; intro w hSw; (try dsimp only at hSw); go_simp; try (with_reducible rfl)
                 try simp only [rnp34, Act.put, List.setIfInBounds_toArray, List.set_cons_zero, List.set_cons_succ]
                 refine wpAnyH_take (i := 35) (oi := rnp35) (v := ?_) rfl (by as_aux_lemma => kernel_rfl) (by as_aux_lemma => kernel_rfl) (by as_aux_lemma => kernel_rfl) (fun _ _ _ h => h) (Or.inl ⟨by rfl, ?_⟩) (by assumption) ?_
                 rotate_left
                 · unfold rnp35; intro w hSw; (try dsimp only at hSw); go_simp; try (with_reducible rfl)
                 try simp only [rnp35, Act.put, List.setIfInBounds_toArray, List.set_cons_zero, List.set_cons_succ]
                 as_aux_lemma =>
                  refine wpAnyH_take (i := 36) (oi := rnp36) (v := ?_) rfl (by as_aux_lemma => kernel_rfl) (by as_aux_lemma => kernel_rfl) (by as_aux_lemma => kernel_rfl) (fun _ _ _ h => h) (Or.inl ⟨by rfl, ?_⟩) (by assumption) ?_
                  rotate_left
                  · unfold rnp36; intro w hSw; (try dsimp only at hSw); go_simp; try (with_reducible rfl)
                  try simp only [rnp36, Act.put, List.setIfInBounds_toArray, List.set_cons_zero, List.set_cons_succ]
                  refine wpAnyH_take (i := 37) (oi := rnp37) (v := ?_) rfl (by as_aux_lemma => kernel_rfl) (by as_aux_lemma => kernel_rfl) (by as_aux_lemma => kernel_rfl) (fun _ _ _ h => h) (Or.inl ⟨by rfl, ?_⟩) (by assumption) ?_
                  rotate_left
                  · unfold rnp37; intro w hSw; (try dsimp only at hSw); go_simp; try (with_reducible rfl)
                  try simp only [rnp37, Act.put, List.setIfInBounds_toArray, List.set_cons_zero, List.set_cons_succ]
                  refine wpAnyH_take (i := 38) (oi := rnp38) (v := ?_) rfl (by as_aux_lemma => kernel_rfl) (by as_aux_lemma => kernel_rfl) (by as_aux_lemma => kernel_rfl) (fun _ _ _ h => h) (Or.inl ⟨by rfl, ?_⟩) (by assumption) ?_
                  rotate_left
                  · unfold rnp38; intro w hSw; (try dsimp only at hSw); go_simp; try (with_reducible rfl)
                  try simp only [rnp38, Act.put, List.setIfInBounds_toArray, List.set_cons_zero, List.set_cons_succ]
                  refine wpAnyH_take (i := 39) (oi := rnp39) (v := ?_) rfl (by as_aux_lemma => kernel_rfl) (by as_aux_lemma => kernel_rfl) (by as_aux_lemma => kernel_rfl) (fun _ _ _ h => h) (Or.inl ⟨by rfl, ?_⟩) (by assumption) ?_
                  rotate_left
                  · unfold rnp39; intro w hSw; (try dsimp only at hSw); go_simp; try (with_reducible rfl)
                  try simp only [rnp39, Act.put, List.setIfInBounds_toArray, List.set_cons_zero, List.set_cons_succ]
                  refine wpAnyH_take (i := 40) (oi := rnp40) (v := ?_) rfl (by as_aux_lemma => kernel_rfl) (by as_aux_lemma => kernel_rfl) (by as_aux_lemma => kernel_rfl) (fun _ _ _ h => h) (Or.inl ⟨by rfl, ?_⟩) (by assumption) ?_
                  rotate_left
                  · unfold rnp40; intro w hSw; (try dsimp only at hSw); go_simp; try (with_reducible rfl)
                  try simp only [rnp40, Act.put, List.setIfInBounds_toArray, List.set_cons_zero, List.set_cons_succ]
                  refine wpAnyH_take (i := 41) (oi := rnp41) (v := ?_) rfl (by as_aux_lemma => kernel_rfl) (by as_aux_lemma => kernel_rfl) (by as_aux_lemma => kernel_rfl) (fun _ _ _ h => h) (Or.inl ⟨by rfl, ?_⟩) (by assumption) ?_
                  rotate_left
                  · unfold rnp41; intro w hSw; (try dsimp only at hSw); go_simp; try (with_reducible rfl)
                  try simp only [rnp41, Act.put, List.setIfInBounds_toArray, List.set_cons_zero, List.set_cons_succ]
                  refine wpAnyH_ready (rs := [42]) (by as_aux_lemma => kernel_rfl) (by simp) ?_
                  refine AllReadyH.cons (o := rnp42) rfl (fun K hK => ?_) AllReadyH.nil
                  unfold rnp42
                  go_simp
                  (go_at_call 21; (with_reducible refine (HSM.out _ ?_ ?_).mono ?_); (focus ((refine Ha_157.out.below ?_); repeat (first | exact Below.refl _ _ | refine below_bx2 ?_ _ | refine below_drw ?_ | refine below_to ?_ (by assumption)))); (focus ((refine Hb_159.out.below ?_); repeat (first | exact Below.refl _ _ | refine below_bx2 ?_ _ | refine below_drw ?_ | refine below_to ?_ (by assumption)))); rintro e vv2 ⟨rfl, bw2⟩)
                  try go_wp2_with fail
                  refine hK.out _ _ ?_ (fun hHeld2 => ?_)
                  · (refine rnd_keep Ba_158 Bb_160 Bc_162 Bl0 ?_; repeat (first | exact Below.refl _ _ | refine below_bx2 ?_ _ | refine below_drw ?_ | refine below_to ?_ (by assumption)))
                  clear hK K hHeld
                  have hHeld := hHeld2
                  clear hHeld2
                  try simp only [rnp42, Act.put, List.setIfInBounds_toArray, List.set_cons_zero, List.set_cons_succ]
                  as_aux_lemma =>
                   refine wpAnyH_take (i := 43) (oi := rnp43) (v := ?_) rfl (by as_aux_lemma => kernel_rfl) (by as_aux_lemma => kernel_rfl) (by as_aux_lemma => kernel_rfl) (fun _ _ _ h => h) (Or.inl ⟨by rfl, ?_⟩) (by assumption) ?_
                   rotate_left
                   · unfold rnp43; intro w hSw; (try dsimp only at hSw); go_simp; try (with_reducible rfl)
                   try simp only [rnp43, Act.put, List.setIfInBounds_toArray, List.set_cons_zero, List.set_cons_succ]
                   refine wpAnyH_take (i := 44) (oi := rnp44) (v := ?_) rfl (by as_aux_lemma => kernel_rfl) (by as_aux_lemma => kernel_rfl) (by as_aux_lemma => kernel_rfl) (fun _ _ _ h => h) (Or.inl ⟨by rfl, ?_⟩) (by assumption) ?_
                   rotate_left
                   · unfold rnp44; intro w hSw; (try dsimp only at hSw); go_simp; try (with_reducible rfl)
                   try simp only [rnp44, Act.put, List.setIfInBounds_toArray, List.set_cons_zero, List.set_cons_succ]
                   refine wpAnyH_take (i := 45) (oi := rnp45) (v := ?_) rfl (by as_aux_lemma => kernel_rfl) (by as_aux_lemma => kernel_rfl) (by as_aux_lemma => kernel_rfl) (fun _ _ _ h => h) (Or.inl ⟨by rfl, ?_⟩) (by assumption) ?_
                   rotate_left
                   · unfold rnp45; intro w hSw; (try dsimp only at hSw); go_simp; try (with_reducible rfl)
                   try simp only [rnp45, Act.put, List.setIfInBounds_toArray, List.set_cons_zero, List.set_cons_succ]
                   refine wpAnyH_take (i := 46) (oi := rnp46) (v := ?_) rfl (by as_aux_lemma => kernel_rfl) (by as_aux_lemma => kernel_rfl) (by as_aux_lemma => kernel_rfl) (fun _ _ _ h => h) (Or.inl ⟨by rfl, ?_⟩) (by assumption) ?_
                   rotate_left
                   · unfold rnp46; intro w hSw; (try dsimp only at hSw); go_simp; try (with_reducible rfl)
                   try simp only [rnp46, Act.put, List.setIfInBounds_toArray, List.set_cons_zero, List.set_cons_succ]
                   refine wpAnyH_done (by kernel_rfl) ?_ _
                   go_wp2_with fail
                   go_meet
                   refine ⟨rfl, ?_⟩
                   repeat (first | exact Below.refl _ _ | refine below_bx2 ?_ _ | refine below_drw ?_ | refine below_to ?_ (by assumption))
      case rest =>
        obtain ⟨rfl, hb6⟩ := hcut
        rename World => wd
        have b_163 := below_to b_154 hb6
        have HR_164 := Lib.hid (HR_155.out.below hb6)
        have BX_165 := BX_156.to hb6
        have Ha_166 := Lib.hid (Ha_157.out.below hb6)
        have Ba_167 := Ba_158.to hb6
        have Hb_168 := Lib.hid (Hb_159.out.below hb6)
        have Bb_169 := Bb_160.to hb6
        have Hc_170 := Lib.hid (Hc_161.out.below hb6)
        have Bc_171 := Bc_162.to hb6
        have Bl_172 := Bl0.to hb6
        clear b_154 HR_155 BX_156 Ha_157 Ba_158 Hb_159 Bb_160 Hc_161 Bc_162 Bl0
        clear hb6 HW1 HW2 HSM hn2 HGL
        have q0 := BX_165.cell0 (i := 0) (v := .slice am nm cm) rfl
        have q1 := BX_165.cell0 (i := 1) (v := .int .i64 q) rfl
        have q2 := BX_165.cell0 (i := 2) (v := .int .i64 bx) rfl
        have q3 := BX_165.cell0 (i := 3) (v := .int .i64 cy) rfl
        have q4 := BX_165.cell0 (i := 4) (v := .int .i64 lo) rfl
        have q5 := BX_165.cell0 (i := 5) (v := .int .i64 hi) rfl
        have q6 := BX_165.cell0 (i := 6) (v := .slice an nn cn) rfl
        have q7 := BX_165.cell0 (i := 7) (v := .slice al nl cl) rfl
        go_wp2_with fail
        clear q0 q1 q2 q3 q4 q5 q6 q7
        refine (impl_kr am nm cm zs q bx cy lo hi an nn cn ps al nl cl qs wd HR_164.out H64.out HSUM.out).mono ?_
        rintro e w7 ⟨ap, cp, rfl, ho, bl⟩
        have Hp0 := Lib.hid (own_hs ho)
        clear ho
        have h40p := kgL_len (zs := zs) (q := q) (bx := bx) (cy := cy) (lo := lo) (hi := hi) (ps := ps) (qs := qs)
        have H40p := Lib.hid h40p
        clear h40p
        generalize kgL zs q bx cy lo hi ps qs = p at *
        generalize kgB zs q bx cy lo hi ps qs = fp at *
        have b_173 := below_to b_163 bl
        have HR_174 := Lib.hid (HR_164.out.below bl)
        have BX_175 := BX_165.to bl
        have Ha_176 := Lib.hid (Ha_166.out.below bl)
        have Ba_177 := Ba_167.to bl
        have Hb_178 := Lib.hid (Hb_168.out.below bl)
        have Bb_179 := Bb_169.to bl
        have Hc_180 := Lib.hid (Hc_170.out.below bl)
        have Bc_181 := Bc_171.to bl
        have Bl_182 := Bl_172.to bl
        clear b_163 HR_164 BX_165 Ha_166 Ba_167 Hb_168 Bb_169 Hc_170 Bc_171 Bl_172
        clear bl
        cases fp with
        | false =>
          go_wp2
          go_ret
          exact ⟨rfl, below_bx2 b_173 _⟩
        | true =>
          obtain ⟨k1, k2⟩ := G5.out rfl
          have HWP := Lib.hid (fun V (h1 : HsAt V ap p) (h2 : HsAt V ac Lc) => impl_wi ap ac p.length Lc.length cp cc p Lc V rfl rfl (by have := H40p.out.1; omega) (by have := H40c.out.1; omega) H40p.out.2 H40c.out.2 h1 h2)
          rw [k1] at HWP
          have HSP := Lib.hid (fun V (h1 : HsAt V ap p) (h2 : HsAt V ac Lc) => impl_rsame ap ac p.length Lc.length cp cc p Lc V rfl rfl (by have := H40p.out.1; omega) h1 h2)
          have K2 := Lib.hid k2
          clear k1 k2
          have bN := below_one w7 (.cells #[.slice ap p.length cp] 26)
          have BP0 := blk_new w7 #[.slice ap p.length cp] 26 rfl
          have b_183 := below_to b_173 bN
          have HR_184 := Lib.hid (HR_174.out.below bN)
          have BX_185 := BX_175.to bN
          have Ha_186 := Lib.hid (Ha_176.out.below bN)
          have Ba_187 := Ba_177.to bN
          have Hb_188 := Lib.hid (Hb_178.out.below bN)
          have Bb_189 := Bb_179.to bN
          have Hc_190 := Lib.hid (Hc_180.out.below bN)
          have Bc_191 := Bc_181.to bN
          have Bl_192 := Bl_182.to bN
          have Hp_193 := Lib.hid (Hp0.out.below bN)
          clear b_173 HR_174 BX_175 Ha_176 Ba_177 Hb_178 Bb_179 Hc_180 Bc_181 Bl_182 Hp0
          clear bN
          have q0 := BP0.cell0 (i := 0) (v := .slice ap p.length cp) rfl
          have q1 := Bc_191.cell0 (i := 0) (v := .slice ac Lc.length cc) rfl
          go_wp2_with fail
          clear q0 q1
          generalize w7.alloc (.cells #[.slice ap p.length cp] 26) = U7 at *
          obtain ⟨kp, hbk⟩ : ∃ b, w7.heap.size = b := ⟨_, rfl⟩
          rw [hbk] at BP0 ⊢
          clear hbk
          refine (HWP.out _ Hp_193.out Hc_190.out).mono ?_
          rintro e w8 ⟨rfl, bl⟩
          have b_194 := below_to b_183 bl
          have HR_195 := Lib.hid (HR_184.out.below bl)
          have BX_196 := BX_185.to bl
          have Ha_197 := Lib.hid (Ha_186.out.below bl)
          have Ba_198 := Ba_187.to bl
          have Hb_199 := Lib.hid (Hb_188.out.below bl)
          have Bb_200 := Bb_189.to bl
          have Hc_201 := Lib.hid (Hc_190.out.below bl)
          have Bc_202 := Bc_191.to bl
          have Bl_203 := Bl_192.to bl
          have Hp_204 := Lib.hid (Hp_193.out.below bl)
          have BP_205 := BP0.to bl
          clear b_183 HR_184 BX_185 Ha_186 Ba_187 Hb_188 Bb_189 Hc_190 Bc_191 Bl_192 Hp_193 BP0
          clear bl
          cases Sc with
          | false =>
            have q0 := Bc_202.cell0 (i := 2) (v := .bool false) rfl
            go_wp2_with fail
            clear q0
            go_ret
            exact ⟨rfl, b_194⟩
          | true =>
            rw [K2.out rfl] at HSP
            have q0 := Bc_202.cell0 (i := 2) (v := .bool true) rfl
            have q1 := BP_205.cell0 (i := 0) (v := .slice ap p.length cp) rfl
            have q2 := Bc_202.cell0 (i := 0) (v := .slice ac Lc.length cc) rfl
            go_wp2_with fail
            clear q0 q1 q2
            refine (HSP.out _ Hp_204.out Hc_201.out).mono ?_
            rintro e w9 ⟨rfl, bl⟩
            have b_206 := below_to b_194 bl
            have HR_207 := Lib.hid (HR_195.out.below bl)
            have BX_208 := BX_196.to bl
            have Ha_209 := Lib.hid (Ha_197.out.below bl)
            have Ba_210 := Ba_198.to bl
            have Hb_211 := Lib.hid (Hb_199.out.below bl)
            have Bb_212 := Bb_200.to bl
            have Hc_213 := Lib.hid (Hc_201.out.below bl)
            have Bc_214 := Bc_202.to bl
            have Bl_215 := Bl_203.to bl
            have Hp_216 := Lib.hid (Hp_204.out.below bl)
            have BP_217 := BP_205.to bl
            clear b_194 HR_195 BX_196 Ha_197 Ba_198 Hb_199 Bb_200 Hc_201 Bc_202 Bl_203 Hp_204 BP_205
            go_wp2
            go_ret
            exact ⟨rfl, b_206⟩
end Go.Proofs.YtdjjncofahnaaaaGreat
