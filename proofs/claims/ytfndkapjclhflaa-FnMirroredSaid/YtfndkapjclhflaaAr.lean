/- The walk of the law FnMirrored. -/
import Derived.Test.YtfndkapjclhflaaAq
import Derived.Test.YtfndkapjclhflaaAi
namespace Go.Proofs.Ytfndkapjclhflaa
open Go.RowKit
open Geo (H3)

theorem keepb6 {V X : World} {B0 B1 B2 B3 B4 B5 : Nat} {c0 c1 c2 c3 c4 c5 : Value} {T0 T1 T2 T3 T4 T5 : TypeId} (h0 : Blk V B0 #[c0] T0) (h1 : Blk V B1 #[c1] T1) (h2 : Blk V B2 #[c2] T2) (h3 : Blk V B3 #[c3] T3) (h4 : Blk V B4 #[c4] T4) (h5 : Blk V B5 #[c5] T5) (hb : Below V.heap.size V X) :
    X.cell? ⟨B0, 0, none⟩ = some c0 ∧ X.cell? ⟨B1, 0, none⟩ = some c1 ∧ X.cell? ⟨B2, 0, none⟩ = some c2 ∧ X.cell? ⟨B3, 0, none⟩ = some c3 ∧ X.cell? ⟨B4, 0, none⟩ = some c4 ∧ X.cell? ⟨B5, 0, none⟩ = some c5 :=
  ⟨(h0.to hb).cell0 rfl, (h1.to hb).cell0 rfl, (h2.to hb).cell0 rfl, (h3.to hb).cell0 rfl, (h4.to hb).cell0 rfl, (h5.to hb).cell0 rfl⟩
def rop0 : Oper :=
  { dst := some 65, op := Go.Op.move (Go.Operand.tmp 7), type := 4, pos := "laws.go:327", after := #[], guard := none }
def rop1 : Oper :=
  { dst := some 66, op := Go.Op.move (Go.Operand.tmp 65), type := 4, pos := "laws.go:327", after := #[{ on := 0, ground := Go.Ground.data }], guard := none }
def rop2 : Oper :=
  { dst := some 67, op := Go.Op.move (Go.Operand.tmp 9), type := 4, pos := "laws.go:327", after := #[{ on := 1, ground := Go.Ground.guard }], guard := some (1, true) }
def rop3 : Oper :=
  { dst := some 68, op := Go.Op.pick (Go.Operand.tmp 66) (Go.Operand.tmp 67) (Go.Operand.const (Go.Value.bool false)), type := 4, pos := "laws.go:327", after := #[{ on := 1, ground := Go.Ground.data }, { on := 2, ground := Go.Ground.data }], guard := none }
def rop4 : Oper :=
  { dst := some 69, op := Go.Op.move (Go.Operand.tmp 68), type := 4, pos := "laws.go:327", after := #[{ on := 3, ground := Go.Ground.data }, { on := 1, ground := Go.Ground.chain }], guard := none }
def rop5 : Oper :=
  { dst := some 70, op := Go.Op.move (Go.Operand.tmp 11), type := 4, pos := "laws.go:327", after := #[{ on := 4, ground := Go.Ground.guard }], guard := some (4, true) }
def rop6 : Oper :=
  { dst := some 71, op := Go.Op.pick (Go.Operand.tmp 69) (Go.Operand.tmp 70) (Go.Operand.const (Go.Value.bool false)), type := 4, pos := "laws.go:327", after := #[{ on := 4, ground := Go.Ground.data }, { on := 5, ground := Go.Ground.data }], guard := none }
def rop7 : Oper :=
  { dst := some 72, op := Go.Op.move (Go.Operand.tmp 71), type := 4, pos := "laws.go:327", after := #[{ on := 6, ground := Go.Ground.data }, { on := 4, ground := Go.Ground.chain }], guard := none }
def rop8 : Oper :=
  { dst := some 73, op := Go.Op.move (Go.Operand.tmp 13), type := 4, pos := "laws.go:327", after := #[{ on := 7, ground := Go.Ground.guard }], guard := some (7, true) }
def rop9 : Oper :=
  { dst := some 74, op := Go.Op.pick (Go.Operand.tmp 72) (Go.Operand.tmp 73) (Go.Operand.const (Go.Value.bool false)), type := 4, pos := "laws.go:327", after := #[{ on := 7, ground := Go.Ground.data }, { on := 8, ground := Go.Ground.data }], guard := none }
def rop10 : Oper :=
  { dst := some 75, op := Go.Op.move (Go.Operand.tmp 74), type := 4, pos := "laws.go:327", after := #[{ on := 9, ground := Go.Ground.data }, { on := 7, ground := Go.Ground.chain }], guard := none }
def rop11 : Oper :=
  { dst := some 76, op := Go.Op.move (Go.Operand.tmp 15), type := 4, pos := "laws.go:327", after := #[{ on := 10, ground := Go.Ground.guard }], guard := some (10, true) }
def rop12 : Oper :=
  { dst := some 77, op := Go.Op.pick (Go.Operand.tmp 75) (Go.Operand.tmp 76) (Go.Operand.const (Go.Value.bool false)), type := 4, pos := "laws.go:327", after := #[{ on := 10, ground := Go.Ground.data }, { on := 11, ground := Go.Ground.data }], guard := none }
def rop13 : Oper :=
  { dst := some 78, op := Go.Op.move (Go.Operand.tmp 77), type := 4, pos := "laws.go:327", after := #[{ on := 12, ground := Go.Ground.data }, { on := 10, ground := Go.Ground.chain }], guard := none }
def rop14 : Oper :=
  { dst := some 79, op := Go.Op.load 25 (Go.Operand.tmp 8), type := 25, pos := "laws.go:327", after := #[{ on := 13, ground := Go.Ground.guard }], guard := some (13, true) }
def rop15 : Oper :=
  { dst := some 80, op := Go.Op.load 25 (Go.Operand.tmp 3), type := 25, pos := "laws.go:327", after := #[{ on := 13, ground := Go.Ground.guard }], guard := some (13, true) }
def rop16 : Oper :=
  { dst := some 81, op := Go.Op.call { callee := Go.Callee.value (Go.Operand.func 21), args := #[Go.Operand.tmp 79, Go.Operand.tmp 80], argTypes := #[25, 25] }, type := 4, pos := "laws.go:327", after := #[{ on := 14, ground := Go.Ground.data }, { on := 15, ground := Go.Ground.data }, { on := 13, ground := Go.Ground.chain }, { on := 13, ground := Go.Ground.guard }], guard := some (13, true) }
def rop17 : Oper :=
  { dst := some 82, op := Go.Op.pick (Go.Operand.tmp 78) (Go.Operand.tmp 81) (Go.Operand.const (Go.Value.bool false)), type := 4, pos := "laws.go:327", after := #[{ on := 13, ground := Go.Ground.data }, { on := 16, ground := Go.Ground.data }], guard := none }
def rop18 : Oper :=
  { dst := some 83, op := Go.Op.move (Go.Operand.tmp 82), type := 4, pos := "laws.go:327", after := #[{ on := 17, ground := Go.Ground.data }, { on := 16, ground := Go.Ground.chain }], guard := none }
def rop19 : Oper :=
  { dst := some 84, op := Go.Op.load 25 (Go.Operand.tmp 12), type := 25, pos := "laws.go:327", after := #[{ on := 18, ground := Go.Ground.guard }], guard := some (18, true) }
def rop20 : Oper :=
  { dst := some 85, op := Go.Op.load 25 (Go.Operand.tmp 3), type := 25, pos := "laws.go:327", after := #[{ on := 18, ground := Go.Ground.guard }], guard := some (18, true) }
def rop21 : Oper :=
  { dst := some 86, op := Go.Op.call { callee := Go.Callee.value (Go.Operand.func 21), args := #[Go.Operand.tmp 84, Go.Operand.tmp 85], argTypes := #[25, 25] }, type := 4, pos := "laws.go:327", after := #[{ on := 19, ground := Go.Ground.data }, { on := 20, ground := Go.Ground.data }, { on := 18, ground := Go.Ground.chain }, { on := 18, ground := Go.Ground.guard }], guard := some (18, true) }
def rop22 : Oper :=
  { dst := some 87, op := Go.Op.pick (Go.Operand.tmp 83) (Go.Operand.tmp 86) (Go.Operand.const (Go.Value.bool false)), type := 4, pos := "laws.go:327", after := #[{ on := 18, ground := Go.Ground.data }, { on := 21, ground := Go.Ground.data }], guard := none }
def rop23 : Oper :=
  { dst := some 88, op := Go.Op.move (Go.Operand.tmp 87), type := 4, pos := "laws.go:327", after := #[{ on := 22, ground := Go.Ground.data }, { on := 21, ground := Go.Ground.chain }], guard := none }
def rop24 : Oper :=
  { dst := some 89, op := Go.Op.load 25 (Go.Operand.tmp 6), type := 25, pos := "laws.go:327", after := #[{ on := 23, ground := Go.Ground.guard }], guard := some (23, true) }
def rop25 : Oper :=
  { dst := some 90, op := Go.Op.call { callee := Go.Callee.value (Go.Operand.func 19), args := #[Go.Operand.tmp 89], argTypes := #[25] }, type := 3, pos := "laws.go:327", after := #[{ on := 24, ground := Go.Ground.data }, { on := 23, ground := Go.Ground.chain }, { on := 23, ground := Go.Ground.guard }], guard := some (23, true) }
def rop26 : Oper :=
  { dst := some 91, op := Go.Op.load 25 (Go.Operand.tmp 3), type := 25, pos := "laws.go:327", after := #[{ on := 23, ground := Go.Ground.guard }], guard := some (23, true) }
def rop27 : Oper :=
  { dst := some 92, op := Go.Op.call { callee := Go.Callee.value (Go.Operand.func 19), args := #[Go.Operand.tmp 91], argTypes := #[25] }, type := 3, pos := "laws.go:327", after := #[{ on := 26, ground := Go.Ground.data }, { on := 25, ground := Go.Ground.chain }, { on := 23, ground := Go.Ground.guard }], guard := some (23, true) }
def rop28 : Oper :=
  { dst := some 93, op := Go.Op.binOp Go.BinOp.eql 3 (Go.Operand.tmp 90) (Go.Operand.tmp 92) 3, type := 4, pos := "laws.go:327", after := #[{ on := 25, ground := Go.Ground.data }, { on := 27, ground := Go.Ground.data }, { on := 23, ground := Go.Ground.guard }], guard := some (23, true) }
def rop29 : Oper :=
  { dst := some 94, op := Go.Op.pick (Go.Operand.tmp 88) (Go.Operand.tmp 93) (Go.Operand.const (Go.Value.bool false)), type := 4, pos := "laws.go:327", after := #[{ on := 23, ground := Go.Ground.data }, { on := 28, ground := Go.Ground.data }], guard := none }
def rop30 : Oper :=
  { dst := some 95, op := Go.Op.move (Go.Operand.tmp 94), type := 4, pos := "laws.go:327", after := #[{ on := 29, ground := Go.Ground.data }, { on := 27, ground := Go.Ground.chain }], guard := none }
def rop31 : Oper :=
  { dst := some 96, op := Go.Op.load 25 (Go.Operand.tmp 10), type := 25, pos := "laws.go:327", after := #[{ on := 30, ground := Go.Ground.guard }], guard := some (30, true) }
def rop32 : Oper :=
  { dst := some 97, op := Go.Op.call { callee := Go.Callee.value (Go.Operand.func 19), args := #[Go.Operand.tmp 96], argTypes := #[25] }, type := 3, pos := "laws.go:327", after := #[{ on := 31, ground := Go.Ground.data }, { on := 30, ground := Go.Ground.chain }, { on := 30, ground := Go.Ground.guard }], guard := some (30, true) }
def rop33 : Oper :=
  { dst := some 98, op := Go.Op.load 25 (Go.Operand.tmp 3), type := 25, pos := "laws.go:327", after := #[{ on := 30, ground := Go.Ground.guard }], guard := some (30, true) }
def rop34 : Oper :=
  { dst := some 99, op := Go.Op.call { callee := Go.Callee.value (Go.Operand.func 19), args := #[Go.Operand.tmp 98], argTypes := #[25] }, type := 3, pos := "laws.go:327", after := #[{ on := 33, ground := Go.Ground.data }, { on := 32, ground := Go.Ground.chain }, { on := 30, ground := Go.Ground.guard }], guard := some (30, true) }
def rop35 : Oper :=
  { dst := some 100, op := Go.Op.binOp Go.BinOp.eql 3 (Go.Operand.tmp 97) (Go.Operand.tmp 99) 3, type := 4, pos := "laws.go:327", after := #[{ on := 32, ground := Go.Ground.data }, { on := 34, ground := Go.Ground.data }, { on := 30, ground := Go.Ground.guard }], guard := some (30, true) }
def rop36 : Oper :=
  { dst := some 101, op := Go.Op.pick (Go.Operand.tmp 95) (Go.Operand.tmp 100) (Go.Operand.const (Go.Value.bool false)), type := 4, pos := "laws.go:327", after := #[{ on := 30, ground := Go.Ground.data }, { on := 35, ground := Go.Ground.data }], guard := none }
def rop37 : Oper :=
  { dst := some 102, op := Go.Op.move (Go.Operand.tmp 101), type := 4, pos := "laws.go:327", after := #[{ on := 36, ground := Go.Ground.data }, { on := 34, ground := Go.Ground.chain }], guard := none }
def rop38 : Oper :=
  { dst := some 103, op := Go.Op.load 25 (Go.Operand.tmp 14), type := 25, pos := "laws.go:327", after := #[{ on := 37, ground := Go.Ground.guard }], guard := some (37, true) }
def rop39 : Oper :=
  { dst := some 104, op := Go.Op.call { callee := Go.Callee.value (Go.Operand.func 19), args := #[Go.Operand.tmp 103], argTypes := #[25] }, type := 3, pos := "laws.go:327", after := #[{ on := 38, ground := Go.Ground.data }, { on := 37, ground := Go.Ground.chain }, { on := 37, ground := Go.Ground.guard }], guard := some (37, true) }
def rop40 : Oper :=
  { dst := some 105, op := Go.Op.binOp Go.BinOp.eql 3 (Go.Operand.tmp 104) (Go.Operand.const (Go.Value.int Go.IntKind.i64 48)) 3, type := 4, pos := "laws.go:327", after := #[{ on := 39, ground := Go.Ground.data }, { on := 37, ground := Go.Ground.guard }], guard := some (37, true) }
def rop41 : Oper :=
  { dst := some 106, op := Go.Op.pick (Go.Operand.tmp 102) (Go.Operand.tmp 105) (Go.Operand.const (Go.Value.bool false)), type := 4, pos := "laws.go:327", after := #[{ on := 37, ground := Go.Ground.data }, { on := 40, ground := Go.Ground.data }], guard := none }
def rop42 : Oper :=
  { dst := some 107, op := Go.Op.move (Go.Operand.tmp 106), type := 4, pos := "laws.go:327", after := #[{ on := 41, ground := Go.Ground.data }, { on := 39, ground := Go.Ground.chain }], guard := none }
def rop43 : Oper :=
  { dst := some 108, op := Go.Op.call { callee := Go.Callee.value (Go.Operand.func 42), args := #[], argTypes := #[] }, type := 23, pos := "laws.go:327", after := #[{ on := 42, ground := Go.Ground.chain }, { on := 42, ground := Go.Ground.guard }], guard := some (42, true) }
def rop44 : Oper :=
  { dst := some 109, op := Go.Op.call { callee := Go.Callee.builtin Go.Builtin.len, args := #[Go.Operand.tmp 108], argTypes := #[23] }, type := 3, pos := "laws.go:327", after := #[{ on := 43, ground := Go.Ground.data }, { on := 42, ground := Go.Ground.guard }], guard := some (42, true) }
def rop45 : Oper :=
  { dst := some 110, op := Go.Op.binOp Go.BinOp.eql 3 (Go.Operand.tmp 109) (Go.Operand.const (Go.Value.int Go.IntKind.i64 4)) 3, type := 4, pos := "laws.go:327", after := #[{ on := 44, ground := Go.Ground.data }, { on := 42, ground := Go.Ground.guard }], guard := some (42, true) }
def rop46 : Oper :=
  { dst := some 111, op := Go.Op.pick (Go.Operand.tmp 107) (Go.Operand.tmp 110) (Go.Operand.const (Go.Value.bool false)), type := 4, pos := "laws.go:327", after := #[{ on := 42, ground := Go.Ground.data }, { on := 45, ground := Go.Ground.data }], guard := none }
def rop47 : Oper :=
  { dst := some 2, op := Go.Op.assign (Go.Operand.tmp 111), type := 4, pos := "laws.go:327", after := #[{ on := 46, ground := Go.Ground.data }, { on := 43, ground := Go.Ground.chain }, { on := 0, ground := Go.Ground.phase }, { on := 1, ground := Go.Ground.phase }, { on := 2, ground := Go.Ground.phase }, { on := 3, ground := Go.Ground.phase }, { on := 4, ground := Go.Ground.phase }, { on := 5, ground := Go.Ground.phase }, { on := 6, ground := Go.Ground.phase }, { on := 7, ground := Go.Ground.phase }, { on := 8, ground := Go.Ground.phase }, { on := 9, ground := Go.Ground.phase }, { on := 10, ground := Go.Ground.phase }, { on := 11, ground := Go.Ground.phase }, { on := 12, ground := Go.Ground.phase }, { on := 13, ground := Go.Ground.phase }, { on := 14, ground := Go.Ground.phase }, { on := 15, ground := Go.Ground.phase }, { on := 16, ground := Go.Ground.phase }, { on := 17, ground := Go.Ground.phase }, { on := 18, ground := Go.Ground.phase }, { on := 19, ground := Go.Ground.phase }, { on := 20, ground := Go.Ground.phase }, { on := 21, ground := Go.Ground.phase }, { on := 22, ground := Go.Ground.phase }, { on := 23, ground := Go.Ground.phase }, { on := 24, ground := Go.Ground.phase }, { on := 25, ground := Go.Ground.phase }, { on := 26, ground := Go.Ground.phase }, { on := 27, ground := Go.Ground.phase }, { on := 28, ground := Go.Ground.phase }, { on := 29, ground := Go.Ground.phase }, { on := 30, ground := Go.Ground.phase }, { on := 31, ground := Go.Ground.phase }, { on := 32, ground := Go.Ground.phase }, { on := 33, ground := Go.Ground.phase }, { on := 34, ground := Go.Ground.phase }, { on := 35, ground := Go.Ground.phase }, { on := 36, ground := Go.Ground.phase }, { on := 37, ground := Go.Ground.phase }, { on := 38, ground := Go.Ground.phase }, { on := 39, ground := Go.Ground.phase }, { on := 40, ground := Go.Ground.phase }, { on := 41, ground := Go.Ground.phase }, { on := 42, ground := Go.Ground.phase }, { on := 43, ground := Go.Ground.phase }, { on := 44, ground := Go.Ground.phase }, { on := 45, ground := Go.Ground.phase }, { on := 46, ground := Go.Ground.phase }], guard := none }
set_option maxRecDepth 100000 in
set_option maxHeartbeats 6400000 in
theorem law_mirrored (a : Option Addr) (len cap : Nat) (w : World) (_hm : len ≤ maxLen) (hB : BytesAt w a len) :
    Calls Try.prog 9 #[.slice a len cap] w fun e w' => e = .returned (.bool true) ∧ Below w.heap.size w w' := by
  by_cases hle : (1048576 : Int) < (len : Int)
  · go_enter Try.func9, Try.ntmps9
    go_wp2
    go_ret
    exact ⟨rfl, Below.refl _ _⟩
  have HB := Lib.hid hB
  have hl : len ≤ 1048576 := by omega
  clear hB
  go_enter Try.func9, Try.ntmps9
  go_wp2_with fail
  refine (make_area w a len cap 1 (by omega) hl HB.out).mono ?_
  rintro e w1 ⟨ps, x0, y0, u0, v0, ap, cp, hAF, rfl, ho1, bl⟩
  have HFps := Lib.hid hAF
  have Hps0 := Lib.hid (own_hs ho1)
  have HZps := Lib.hid (own_nil ho1)
  clear hAF ho1
  obtain ⟨p, hp⟩ : ∃ p, ps.length = p := ⟨_, rfl⟩
  rw [hp] at HZps ⊢
  have HLps := Lib.hid hp
  clear hp
  have b0 := bl
  clear bl
  have HRps := Lib.hid HFps.out.1
  have HNps := Lib.hid HFps.out.2.1
  have hpl : p ≤ 10 := by have := HFps.out.2.2.1; have := HLps.out; omega
  have H64ps := Lib.hid (fun h hh => ok_in64 (rok_all HRps.out h hh))
  have bN := below_one w1 (.cells #[.slice ap p cp] 25)
  have BP0 := blk_new w1 #[.slice ap p cp] 25 rfl
  have b_1 := below_to b0 bN
  have Hps_2 := Lib.hid (Hps0.out.below bN)
  clear b0 Hps0
  clear bN
  go_wp2_with fail
  generalize w1.alloc (.cells #[.slice ap p cp] 25) = U1 at *
  obtain ⟨bp, hbk⟩ : ∃ b, w1.heap.size = b := ⟨_, rfl⟩
  rw [hbk] at BP0 ⊢
  clear hbk
  refine (make_num U1 a len cap 40 (by omega) hl (HB.out.below b_1)).mono ?_
  rintro e w2 ⟨n1, hn1, rfl, bl⟩
  have rn1 := rem_in (n := 60) (by omega) hn1
  clear hn1
  have b_3 := below_to b_1 bl
  have Hps_4 := Lib.hid (Hps_2.out.below bl)
  have BP_5 := BP0.to bl
  clear b_1 Hps_2 BP0
  clear bl
  have hx : -30 ≤ n1.tmod 60 - 30 ∧ n1.tmod 60 - 30 ≤ 30 := by omega
  go_wp2_with fail
  generalize n1.tmod 60 - 30 = dx at *
  clear rn1
  refine (make_num w2 a len cap 42 (by omega) hl (HB.out.below b_3)).mono ?_
  rintro e w3 ⟨n2, hn2, rfl, bl⟩
  have rn2 := rem_in (n := 60) (by omega) hn2
  clear hn2
  have b_6 := below_to b_3 bl
  have Hps_7 := Lib.hid (Hps_4.out.below bl)
  have BP_8 := BP_5.to bl
  clear b_3 Hps_4 BP_5
  clear bl
  have hy : -30 ≤ n2.tmod 60 - 30 ∧ n2.tmod 60 - 30 ≤ 30 := by omega
  have q0 := BP_8.cell0 (i := 0) rfl
  go_wp2_with fail
  clear q0
  generalize n2.tmod 60 - 30 = dy at *
  clear rn2
  obtain ⟨ms, f1, f2, f3, f4, f5, f6, f7, f8⟩ := mir_facts HRps.out HNps.out (by have := HLps.out; omega)
  have hwm := who_mir HRps.out HNps.out f3 f4 f8
  obtain ⟨g1, g2, g3, g4, g5⟩ := move_facts HFps.out hx hy
  have hwa := who_move HFps.out hx hy
  have hal : (ps.map (tmM dx dy)).length = p := by rw [List.length_map]; exact HLps.out
  rw [HLps.out] at f5
  obtain ⟨k1, k2, k3⟩ := who_box hx hy
  have HRM := Lib.hid f3
  have HLM := Lib.hid f5
  have HRA := Lib.hid g3
  have M64 := Lib.hid (fun h hh => ok_in64 (rok_all HRM.out h hh))
  have A64 := Lib.hid (fun h hh => ok_in64 (rok_all HRA.out h hh))
  have HM1 := Lib.hid (fun V (h : HsAt V ap ps) => impl_mir ap p cp ps V HLps.out (by omega) H64ps.out HZps.out h)
  rw [f1, f2] at HM1
  unfold AnsR at HM1
  rw [f5] at HM1
  have HM2 := Lib.hid (fun V am cm (hz : am = none → p = 0 ∧ cm = 0) (h : HsAt V am ms) => impl_mir am p cm ms V HLM.out (by omega) M64.out hz h)
  rw [f6, f7] at HM2
  unfold AnsR at HM2
  rw [HLps.out] at HM2
  have HS1 := Lib.hid (fun V (h : HsAt V ap ps) => impl_shiftr ap p cp ps dx dy V HLps.out (by omega) H64ps.out (by omega) (by omega) HZps.out h)
  rw [g1, g2] at HS1
  unfold AnsR at HS1
  rw [hal] at HS1
  have HS2 := Lib.hid (fun V aa ca (hz : aa = none → p = 0 ∧ ca = 0) (h : HsAt V aa (ps.map (tmM dx dy))) => impl_shiftr aa p ca _ (-dx) (-dy) V hal (by omega) A64.out (by omega) (by omega) hz h)
  rw [g4, g5] at HS2
  unfold AnsR at HS2
  rw [HLps.out] at HS2
  have HB1 := Lib.hid (fun V => impl_box dx dy (dx + 7) (dy + 5) V)
  unfold BoxW at HB1
  rw [show bxL dx dy (dx + 7) (dy + 5) = boxL dx dy (dx + 7) (dy + 5) by unfold bxL; rw [if_pos k1], k1, show (boxL dx dy (dx + 7) (dy + 5)).length = 4 from rfl] at HB1
  have HXL := Lib.hid (show (boxL dx dy (dx + 7) (dy + 5)).length = 4 from rfl)
  have X64 := Lib.hid (fun h hh => ok_in64 (rok_all k2 h hh))
  have HAL := Lib.hid hal
  clear f1 f2 f3 f4 f5 f6 f7 f8 g1 g2 g3 g4 g5 k1 k2 hal
  generalize boxL dx dy (dx + 7) (dy + 5) = xs at *
  generalize ps.map (tmM dx dy) = ts at *
  refine (HM1.out _ Hps_7.out).mono ?_
  rintro e w4 ⟨am, cm, rfl, ho, bl⟩
  have HZm := Lib.hid (own_nil ho)
  have Hms0 := Lib.hid (own_hs ho)
  clear ho HM1
  have b_9 := below_to b_6 bl
  have Hps_10 := Lib.hid (Hps_7.out.below bl)
  have BP_11 := BP_8.to bl
  clear b_6 Hps_7 BP_8
  clear bl
  have bN := below_one w4 (.cells #[.slice am p cm] 25)
  have BM0 := blk_new w4 #[.slice am p cm] 25 rfl
  have b_12 := below_to b_9 bN
  have Hps_13 := Lib.hid (Hps_10.out.below bN)
  have BP_14 := BP_11.to bN
  have Hms_15 := Lib.hid (Hms0.out.below bN)
  clear b_9 Hps_10 BP_11 Hms0
  clear bN
  have q0 := BM0.cell0 (i := 0) rfl
  go_wp2_with fail
  clear q0
  generalize w4.alloc (.cells #[.slice am p cm] 25) = U2 at *
  obtain ⟨bm, hbk⟩ : ∃ b, w4.heap.size = b := ⟨_, rfl⟩
  rw [hbk] at BM0 ⊢
  clear hbk
  refine (HM2.out _ _ _ HZm.out Hms_15.out).mono ?_
  rintro e w5 ⟨an, cn, rfl, ho, bl⟩
  have Hns0 := Lib.hid (own_hs ho)
  clear ho HM2
  have b_16 := below_to b_12 bl
  have Hps_17 := Lib.hid (Hps_13.out.below bl)
  have BP_18 := BP_14.to bl
  have Hms_19 := Lib.hid (Hms_15.out.below bl)
  have BM_20 := BM0.to bl
  clear b_12 Hps_13 BP_14 Hms_15 BM0
  clear bl
  have bN := below_one w5 (.cells #[.slice an p cn] 25)
  have BN0 := blk_new w5 #[.slice an p cn] 25 rfl
  have b_21 := below_to b_16 bN
  have Hps_22 := Lib.hid (Hps_17.out.below bN)
  have BP_23 := BP_18.to bN
  have Hms_24 := Lib.hid (Hms_19.out.below bN)
  have BM_25 := BM_20.to bN
  have Hns_26 := Lib.hid (Hns0.out.below bN)
  clear b_16 Hps_17 BP_18 Hms_19 BM_20 Hns0
  clear bN
  have q0 := BP_23.cell0 (i := 0) rfl
  go_wp2_with fail
  clear q0
  generalize w5.alloc (.cells #[.slice an p cn] 25) = U3 at *
  obtain ⟨bn, hbk⟩ : ∃ b, w5.heap.size = b := ⟨_, rfl⟩
  rw [hbk] at BN0 ⊢
  clear hbk
  refine (HS1.out _ Hps_22.out).mono ?_
  rintro e w6 ⟨aa, ca, rfl, ho, bl⟩
  have HZa := Lib.hid (own_nil ho)
  have Has0 := Lib.hid (own_hs ho)
  clear ho HS1
  have b_27 := below_to b_21 bl
  have Hps_28 := Lib.hid (Hps_22.out.below bl)
  have BP_29 := BP_23.to bl
  have Hms_30 := Lib.hid (Hms_24.out.below bl)
  have BM_31 := BM_25.to bl
  have Hns_32 := Lib.hid (Hns_26.out.below bl)
  have BN_33 := BN0.to bl
  clear b_21 Hps_22 BP_23 Hms_24 BM_25 Hns_26 BN0
  clear bl
  have bN := below_one w6 (.cells #[.slice aa p ca] 25)
  have BA0 := blk_new w6 #[.slice aa p ca] 25 rfl
  have b_34 := below_to b_27 bN
  have Hps_35 := Lib.hid (Hps_28.out.below bN)
  have BP_36 := BP_29.to bN
  have Hms_37 := Lib.hid (Hms_30.out.below bN)
  have BM_38 := BM_31.to bN
  have Hns_39 := Lib.hid (Hns_32.out.below bN)
  have BN_40 := BN_33.to bN
  have Has_41 := Lib.hid (Has0.out.below bN)
  clear b_27 Hps_28 BP_29 Hms_30 BM_31 Hns_32 BN_33 Has0
  clear bN
  have q0 := BA0.cell0 (i := 0) rfl
  go_wp2_with fail
  clear q0
  generalize w6.alloc (.cells #[.slice aa p ca] 25) = U4 at *
  obtain ⟨ba, hbk⟩ : ∃ b, w6.heap.size = b := ⟨_, rfl⟩
  rw [hbk] at BA0 ⊢
  clear hbk
  refine (HS2.out _ _ _ HZa.out Has_41.out).mono ?_
  rintro e w7 ⟨ab, cb, rfl, ho, bl⟩
  have Hbs0 := Lib.hid (own_hs ho)
  clear ho HS2
  have b_42 := below_to b_34 bl
  have Hps_43 := Lib.hid (Hps_35.out.below bl)
  have BP_44 := BP_36.to bl
  have Hms_45 := Lib.hid (Hms_37.out.below bl)
  have BM_46 := BM_38.to bl
  have Hns_47 := Lib.hid (Hns_39.out.below bl)
  have BN_48 := BN_40.to bl
  have Has_49 := Lib.hid (Has_41.out.below bl)
  have BA_50 := BA0.to bl
  clear b_34 Hps_35 BP_36 Hms_37 BM_38 Hns_39 BN_40 Has_41 BA0
  clear bl
  have bN := below_one w7 (.cells #[.slice ab p cb] 25)
  have BB0 := blk_new w7 #[.slice ab p cb] 25 rfl
  have b_51 := below_to b_42 bN
  have Hps_52 := Lib.hid (Hps_43.out.below bN)
  have BP_53 := BP_44.to bN
  have Hms_54 := Lib.hid (Hms_45.out.below bN)
  have BM_55 := BM_46.to bN
  have Hns_56 := Lib.hid (Hns_47.out.below bN)
  have BN_57 := BN_48.to bN
  have Has_58 := Lib.hid (Has_49.out.below bN)
  have BA_59 := BA_50.to bN
  have Hbs_60 := Lib.hid (Hbs0.out.below bN)
  clear b_42 Hps_43 BP_44 Hms_45 BM_46 Hns_47 BN_48 Has_49 BA_50 Hbs0
  clear bN
  go_wp2_with fail
  generalize w7.alloc (.cells #[.slice ab p cb] 25) = U5 at *
  obtain ⟨bb, hbk⟩ : ∃ b, w7.heap.size = b := ⟨_, rfl⟩
  rw [hbk] at BB0 ⊢
  clear hbk
  refine (HB1.out _).mono ?_
  rintro e w8 ⟨ax, cx, rfl, ho, bl⟩
  have Hxs0 := Lib.hid (own_hs ho)
  clear ho HB1
  have b_61 := below_to b_51 bl
  have Hps_62 := Lib.hid (Hps_52.out.below bl)
  have BP_63 := BP_53.to bl
  have Hms_64 := Lib.hid (Hms_54.out.below bl)
  have BM_65 := BM_55.to bl
  have Hns_66 := Lib.hid (Hns_56.out.below bl)
  have BN_67 := BN_57.to bl
  have Has_68 := Lib.hid (Has_58.out.below bl)
  have BA_69 := BA_59.to bl
  have Hbs_70 := Lib.hid (Hbs_60.out.below bl)
  have BB_71 := BB0.to bl
  clear b_51 Hps_52 BP_53 Hms_54 BM_55 Hns_56 BN_57 Has_58 BA_59 Hbs_60 BB0
  clear bl
  have bN := below_one w8 (.cells #[.slice ax 4 cx] 25)
  have BX0 := blk_new w8 #[.slice ax 4 cx] 25 rfl
  have b_72 := below_to b_61 bN
  have Hps_73 := Lib.hid (Hps_62.out.below bN)
  have BP_74 := BP_63.to bN
  have Hms_75 := Lib.hid (Hms_64.out.below bN)
  have BM_76 := BM_65.to bN
  have Hns_77 := Lib.hid (Hns_66.out.below bN)
  have BN_78 := BN_67.to bN
  have Has_79 := Lib.hid (Has_68.out.below bN)
  have BA_80 := BA_69.to bN
  have Hbs_81 := Lib.hid (Hbs_70.out.below bN)
  have BB_82 := BB_71.to bN
  have Hxs_83 := Lib.hid (Hxs0.out.below bN)
  clear b_61 Hps_62 BP_63 Hms_64 BM_65 Hns_66 BN_67 Has_68 BA_69 Hbs_70 BB_71 Hxs0
  clear bN
  go_wp2_with fail
  generalize w8.alloc (.cells #[.slice ax 4 cx] 25) = U6 at *
  obtain ⟨bx, hbk⟩ : ∃ b, w8.heap.size = b := ⟨_, rfl⟩
  rw [hbk] at BX0 ⊢
  clear hbk
  have HN1 := Lib.hid (fun V (h : HsAt V an ps) (k : HsAt V ap ps) => impl_rsame an ap p p cn cp ps ps V HLps.out HLps.out (by omega) h k)
  rw [show sameB ps ps = true by unfold sameB; simp] at HN1
  have HN2 := Lib.hid (fun V (h : HsAt V ab ps) (k : HsAt V ap ps) => impl_rsame ab ap p p cb cp ps ps V HLps.out HLps.out (by omega) h k)
  rw [show sameB ps ps = true by unfold sameB; simp] at HN2
  have HW1 := Lib.hid (fun V (k : HsAt V am ms) => impl_who am p cm ms V HLM.out (by omega) M64.out k)
  rw [hwm] at HW1
  have HW2 := Lib.hid (fun V (k : HsAt V ap ps) => impl_who ap p cp ps V HLps.out (by omega) H64ps.out k)
  have HW3 := Lib.hid (fun V (k : HsAt V aa ts) => impl_who aa p ca ts V HAL.out (by omega) A64.out k)
  rw [hwa] at HW3
  have HW5 := Lib.hid (fun V (k : HsAt V ax xs) => impl_who ax 4 cx xs V HXL.out (by omega) X64.out k)
  rw [k3] at HW5
  have HFR := Lib.hid (fun V => impl_frame V)
  unfold HalW at HFR
  clear hwm hwa k3
  generalize whoN ps = wn at *
  go_cut [2] from 65 to 111 (fun s6 wx => s6 = .bool true ∧ Below U6.heap.size U6 wx)
  case first =>
    refine wp_region_held_drew (S := (fun w' => w'.cell? ⟨bp, 0, none⟩ = some (.slice ap p cp) ∧ w'.cell? ⟨bm, 0, none⟩ = some (.slice am p cm) ∧ w'.cell? ⟨bn, 0, none⟩ = some (.slice an p cn) ∧ w'.cell? ⟨ba, 0, none⟩ = some (.slice aa p ca) ∧ w'.cell? ⟨bb, 0, none⟩ = some (.slice ab p cb) ∧ w'.cell? ⟨bx, 0, none⟩ = some (.slice ax 4 cx))) (by kernel_rfl) ?_ (fun hHeld => ?_)
    · (refine keepb6 BP_74 BM_76 BN_78 BA_80 BB_82 BX0 ?_; repeat (first | exact Below.refl _ _ | refine below_drw ?_ | refine below_to ?_ (by assumption)))
    refine wpAnyH_take (i := 0) (oi := rop0) (v := ?_) rfl (by as_aux_lemma => kernel_rfl) (by as_aux_lemma => kernel_rfl) (by as_aux_lemma => kernel_rfl) (fun _ _ _ h => h) (Or.inl ⟨by rfl, ?_⟩) (by assumption) ?_
    rotate_left
    · unfold rop0; intro w hSw; (try dsimp only at hSw); go_simp; try (with_reducible rfl)
    try simp only [rop0, Act.put, List.setIfInBounds_toArray, List.set_cons_zero, List.set_cons_succ]
    refine wpAnyH_take (i := 1) (oi := rop1) (v := ?_) rfl (by as_aux_lemma => kernel_rfl) (by as_aux_lemma => kernel_rfl) (by as_aux_lemma => kernel_rfl) (fun _ _ _ h => h) (Or.inl ⟨by rfl, ?_⟩) (by assumption) ?_
    rotate_left
    · unfold rop1; intro w hSw; (try dsimp only at hSw); go_simp; try (with_reducible rfl)
    try simp only [rop1, Act.put, List.setIfInBounds_toArray, List.set_cons_zero, List.set_cons_succ]
    refine wpAnyH_take (i := 2) (oi := rop2) (v := ?_) rfl (by as_aux_lemma => kernel_rfl) (by as_aux_lemma => kernel_rfl) (by as_aux_lemma => kernel_rfl) (fun _ _ _ h => h) (Or.inl ⟨by rfl, ?_⟩) (by assumption) ?_
    rotate_left
    · unfold rop2; intro w hSw; (try dsimp only at hSw); go_simp; try (with_reducible rfl)
    try simp only [rop2, Act.put, List.setIfInBounds_toArray, List.set_cons_zero, List.set_cons_succ]
    refine wpAnyH_take (i := 3) (oi := rop3) (v := ?_) rfl (by as_aux_lemma => kernel_rfl) (by as_aux_lemma => kernel_rfl) (by as_aux_lemma => kernel_rfl) (fun _ _ _ h => h) (Or.inl ⟨by rfl, ?_⟩) (by assumption) ?_
    rotate_left
    · unfold rop3; intro w hSw; (try dsimp only at hSw); go_simp; try (with_reducible rfl)
    try simp only [rop3, Act.put, List.setIfInBounds_toArray, List.set_cons_zero, List.set_cons_succ]
    refine wpAnyH_take (i := 4) (oi := rop4) (v := ?_) rfl (by as_aux_lemma => kernel_rfl) (by as_aux_lemma => kernel_rfl) (by as_aux_lemma => kernel_rfl) (fun _ _ _ h => h) (Or.inl ⟨by rfl, ?_⟩) (by assumption) ?_
    rotate_left
    · unfold rop4; intro w hSw; (try dsimp only at hSw); go_simp; try (with_reducible rfl)
    try simp only [rop4, Act.put, List.setIfInBounds_toArray, List.set_cons_zero, List.set_cons_succ]
    refine wpAnyH_take (i := 5) (oi := rop5) (v := ?_) rfl (by as_aux_lemma => kernel_rfl) (by as_aux_lemma => kernel_rfl) (by as_aux_lemma => kernel_rfl) (fun _ _ _ h => h) (Or.inl ⟨by rfl, ?_⟩) (by assumption) ?_
    rotate_left
    · unfold rop5; intro w hSw; (try dsimp only at hSw); go_simp; try (with_reducible rfl)
    try simp only [rop5, Act.put, List.setIfInBounds_toArray, List.set_cons_zero, List.set_cons_succ]
    refine wpAnyH_take (i := 6) (oi := rop6) (v := ?_) rfl (by as_aux_lemma => kernel_rfl) (by as_aux_lemma => kernel_rfl) (by as_aux_lemma => kernel_rfl) (fun _ _ _ h => h) (Or.inl ⟨by rfl, ?_⟩) (by assumption) ?_
    rotate_left
    · unfold rop6; intro w hSw; (try dsimp only at hSw); go_simp; try (with_reducible rfl)
    try simp only [rop6, Act.put, List.setIfInBounds_toArray, List.set_cons_zero, List.set_cons_succ]
    refine wpAnyH_take (i := 7) (oi := rop7) (v := ?_) rfl (by as_aux_lemma => kernel_rfl) (by as_aux_lemma => kernel_rfl) (by as_aux_lemma => kernel_rfl) (fun _ _ _ h => h) (Or.inl ⟨by rfl, ?_⟩) (by assumption) ?_
    rotate_left
    · unfold rop7; intro w hSw; (try dsimp only at hSw); go_simp; try (with_reducible rfl)
    try simp only [rop7, Act.put, List.setIfInBounds_toArray, List.set_cons_zero, List.set_cons_succ]
    refine wpAnyH_take (i := 8) (oi := rop8) (v := ?_) rfl (by as_aux_lemma => kernel_rfl) (by as_aux_lemma => kernel_rfl) (by as_aux_lemma => kernel_rfl) (fun _ _ _ h => h) (Or.inl ⟨by rfl, ?_⟩) (by assumption) ?_
    rotate_left
    · unfold rop8; intro w hSw; (try dsimp only at hSw); go_simp; try (with_reducible rfl)
    try simp only [rop8, Act.put, List.setIfInBounds_toArray, List.set_cons_zero, List.set_cons_succ]
    refine wpAnyH_take (i := 9) (oi := rop9) (v := ?_) rfl (by as_aux_lemma => kernel_rfl) (by as_aux_lemma => kernel_rfl) (by as_aux_lemma => kernel_rfl) (fun _ _ _ h => h) (Or.inl ⟨by rfl, ?_⟩) (by assumption) ?_
    rotate_left
    · unfold rop9; intro w hSw; (try dsimp only at hSw); go_simp; try (with_reducible rfl)
    try simp only [rop9, Act.put, List.setIfInBounds_toArray, List.set_cons_zero, List.set_cons_succ]
    refine wpAnyH_take (i := 10) (oi := rop10) (v := ?_) rfl (by as_aux_lemma => kernel_rfl) (by as_aux_lemma => kernel_rfl) (by as_aux_lemma => kernel_rfl) (fun _ _ _ h => h) (Or.inl ⟨by rfl, ?_⟩) (by assumption) ?_
    rotate_left
    · unfold rop10; intro w hSw; (try dsimp only at hSw); go_simp; try (with_reducible rfl)
    try simp only [rop10, Act.put, List.setIfInBounds_toArray, List.set_cons_zero, List.set_cons_succ]
    refine wpAnyH_take (i := 11) (oi := rop11) (v := ?_) rfl (by as_aux_lemma => kernel_rfl) (by as_aux_lemma => kernel_rfl) (by as_aux_lemma => kernel_rfl) (fun _ _ _ h => h) (Or.inl ⟨by rfl, ?_⟩) (by assumption) ?_
    rotate_left
    · unfold rop11; intro w hSw; (try dsimp only at hSw); go_simp; try (with_reducible rfl)
    try simp only [rop11, Act.put, List.setIfInBounds_toArray, List.set_cons_zero, List.set_cons_succ]
    as_aux_lemma =>
     refine wpAnyH_take (i := 12) (oi := rop12) (v := ?_) rfl (by as_aux_lemma => kernel_rfl) (by as_aux_lemma => kernel_rfl) (by as_aux_lemma => kernel_rfl) (fun _ _ _ h => h) (Or.inl ⟨by rfl, ?_⟩) (by assumption) ?_
     rotate_left
     · unfold rop12; intro w hSw; (try dsimp only at hSw); go_simp; try (with_reducible rfl)
     try simp only [rop12, Act.put, List.setIfInBounds_toArray, List.set_cons_zero, List.set_cons_succ]
     refine wpAnyH_take (i := 13) (oi := rop13) (v := ?_) rfl (by as_aux_lemma => kernel_rfl) (by as_aux_lemma => kernel_rfl) (by as_aux_lemma => kernel_rfl) (fun _ _ _ h => h) (Or.inl ⟨by rfl, ?_⟩) (by assumption) ?_
     rotate_left
     · unfold rop13; intro w hSw; (try dsimp only at hSw); go_simp; try (with_reducible rfl)
     try simp only [rop13, Act.put, List.setIfInBounds_toArray, List.set_cons_zero, List.set_cons_succ]
     refine wpAnyH_take (i := 14) (oi := rop14) (v := ?_) rfl (by as_aux_lemma => kernel_rfl) (by as_aux_lemma => kernel_rfl) (by as_aux_lemma => kernel_rfl) (fun _ _ _ h => h) (Or.inl ⟨by rfl, ?_⟩) (by assumption) ?_
     rotate_left
     · unfold rop14; intro w hSw; (try dsimp only at hSw); go_simp; try (with_reducible rfl)
     try simp only [rop14, Act.put, List.setIfInBounds_toArray, List.set_cons_zero, List.set_cons_succ]
     refine wpAnyH_take (i := 15) (oi := rop15) (v := ?_) rfl (by as_aux_lemma => kernel_rfl) (by as_aux_lemma => kernel_rfl) (by as_aux_lemma => kernel_rfl) (fun _ _ _ h => h) (Or.inl ⟨by rfl, ?_⟩) (by assumption) ?_
     rotate_left
     · unfold rop15; intro w hSw; (try dsimp only at hSw); go_simp; try (with_reducible rfl)
     try simp only [rop15, Act.put, List.setIfInBounds_toArray, List.set_cons_zero, List.set_cons_succ]
     refine wpAnyH_ready (rs := [16]) (by as_aux_lemma => kernel_rfl) (by simp) ?_
     refine (AllReadyH.cons (o := rop16) rfl (fun K hK => ?_) AllReadyH.nil)
     unfold rop16
     go_simp
     (go_at_call 21; (with_reducible refine (HN1.out _ ?_ ?_).mono ?_); (focus ((refine Hns_77.out.below ?_); repeat (first | exact Below.refl _ _ | refine below_drw ?_ | refine below_to ?_ (by assumption)))); (focus ((refine Hps_73.out.below ?_); repeat (first | exact Below.refl _ _ | refine below_drw ?_ | refine below_to ?_ (by assumption)))); rintro e z0 ⟨rfl, bl0⟩)
     try go_wp2_with fail
     refine hK.out _ _ ?_ (fun hHeld2 => ?_)
     · (refine keepb6 BP_74 BM_76 BN_78 BA_80 BB_82 BX0 ?_; repeat (first | exact Below.refl _ _ | refine below_drw ?_ | refine below_to ?_ (by assumption)))
     clear hK K hHeld
     have hHeld := hHeld2
     clear hHeld2
     try simp only [rop16, Act.put, List.setIfInBounds_toArray, List.set_cons_zero, List.set_cons_succ]
     as_aux_lemma =>
      refine wpAnyH_take (i := 17) (oi := rop17) (v := ?_) rfl (by as_aux_lemma => kernel_rfl) (by as_aux_lemma => kernel_rfl) (by as_aux_lemma => kernel_rfl) (fun _ _ _ h => h) (Or.inl ⟨by rfl, ?_⟩) (by assumption) ?_
      rotate_left
      · unfold rop17; intro w hSw; (try dsimp only at hSw); go_simp; try (with_reducible rfl)
      try simp only [rop17, Act.put, List.setIfInBounds_toArray, List.set_cons_zero, List.set_cons_succ]
      refine wpAnyH_take (i := 18) (oi := rop18) (v := ?_) rfl (by as_aux_lemma => kernel_rfl) (by as_aux_lemma => kernel_rfl) (by as_aux_lemma => kernel_rfl) (fun _ _ _ h => h) (Or.inl ⟨by rfl, ?_⟩) (by assumption) ?_
      rotate_left
      · unfold rop18; intro w hSw; (try dsimp only at hSw); go_simp; try (with_reducible rfl)
      try simp only [rop18, Act.put, List.setIfInBounds_toArray, List.set_cons_zero, List.set_cons_succ]
      refine wpAnyH_take (i := 19) (oi := rop19) (v := ?_) rfl (by as_aux_lemma => kernel_rfl) (by as_aux_lemma => kernel_rfl) (by as_aux_lemma => kernel_rfl) (fun _ _ _ h => h) (Or.inl ⟨by rfl, ?_⟩) (by assumption) ?_
      rotate_left
      · unfold rop19; intro w hSw; (try dsimp only at hSw); go_simp; try (with_reducible rfl)
      try simp only [rop19, Act.put, List.setIfInBounds_toArray, List.set_cons_zero, List.set_cons_succ]
      refine wpAnyH_take (i := 20) (oi := rop20) (v := ?_) rfl (by as_aux_lemma => kernel_rfl) (by as_aux_lemma => kernel_rfl) (by as_aux_lemma => kernel_rfl) (fun _ _ _ h => h) (Or.inl ⟨by rfl, ?_⟩) (by assumption) ?_
      rotate_left
      · unfold rop20; intro w hSw; (try dsimp only at hSw); go_simp; try (with_reducible rfl)
      try simp only [rop20, Act.put, List.setIfInBounds_toArray, List.set_cons_zero, List.set_cons_succ]
      refine wpAnyH_ready (rs := [21]) (by as_aux_lemma => kernel_rfl) (by simp) ?_
      refine (AllReadyH.cons (o := rop21) rfl (fun K hK => ?_) AllReadyH.nil)
      unfold rop21
      go_simp
      (go_at_call 21; (with_reducible refine (HN2.out _ ?_ ?_).mono ?_); (focus ((refine Hbs_81.out.below ?_); repeat (first | exact Below.refl _ _ | refine below_drw ?_ | refine below_to ?_ (by assumption)))); (focus ((refine Hps_73.out.below ?_); repeat (first | exact Below.refl _ _ | refine below_drw ?_ | refine below_to ?_ (by assumption)))); rintro e z1 ⟨rfl, bl1⟩)
      try go_wp2_with fail
      refine hK.out _ _ ?_ (fun hHeld2 => ?_)
      · (refine keepb6 BP_74 BM_76 BN_78 BA_80 BB_82 BX0 ?_; repeat (first | exact Below.refl _ _ | refine below_drw ?_ | refine below_to ?_ (by assumption)))
      clear hK K hHeld
      have hHeld := hHeld2
      clear hHeld2
      try simp only [rop21, Act.put, List.setIfInBounds_toArray, List.set_cons_zero, List.set_cons_succ]
      as_aux_lemma =>
       refine wpAnyH_take (i := 22) (oi := rop22) (v := ?_) rfl (by as_aux_lemma => kernel_rfl) (by as_aux_lemma => kernel_rfl) (by as_aux_lemma => kernel_rfl) (fun _ _ _ h => h) (Or.inl ⟨by rfl, ?_⟩) (by assumption) ?_
       rotate_left
       · unfold rop22; intro w hSw; (try dsimp only at hSw); go_simp; try (with_reducible rfl)
       try simp only [rop22, Act.put, List.setIfInBounds_toArray, List.set_cons_zero, List.set_cons_succ]
       refine wpAnyH_take (i := 23) (oi := rop23) (v := ?_) rfl (by as_aux_lemma => kernel_rfl) (by as_aux_lemma => kernel_rfl) (by as_aux_lemma => kernel_rfl) (fun _ _ _ h => h) (Or.inl ⟨by rfl, ?_⟩) (by assumption) ?_
       rotate_left
       · unfold rop23; intro w hSw; (try dsimp only at hSw); go_simp; try (with_reducible rfl)
       try simp only [rop23, Act.put, List.setIfInBounds_toArray, List.set_cons_zero, List.set_cons_succ]
       refine wpAnyH_take (i := 24) (oi := rop24) (v := ?_) rfl (by as_aux_lemma => kernel_rfl) (by as_aux_lemma => kernel_rfl) (by as_aux_lemma => kernel_rfl) (fun _ _ _ h => h) (Or.inl ⟨by rfl, ?_⟩) (by assumption) ?_
       rotate_left
       · unfold rop24; intro w hSw; (try dsimp only at hSw); go_simp; try (with_reducible rfl)
       try simp only [rop24, Act.put, List.setIfInBounds_toArray, List.set_cons_zero, List.set_cons_succ]
       refine wpAnyH_take (i := 26) (oi := rop26) (v := ?_) rfl (by as_aux_lemma => kernel_rfl) (by as_aux_lemma => kernel_rfl) (by as_aux_lemma => kernel_rfl) (fun _ _ _ h => h) (Or.inl ⟨by rfl, ?_⟩) (by assumption) ?_
       rotate_left
       · unfold rop26; intro w hSw; (try dsimp only at hSw); go_simp; try (with_reducible rfl)
       try simp only [rop26, Act.put, List.setIfInBounds_toArray, List.set_cons_zero, List.set_cons_succ]
       refine wpAnyH_ready (rs := [25]) (by as_aux_lemma => kernel_rfl) (by simp) ?_
       refine (AllReadyH.cons (o := rop25) rfl (fun K hK => ?_) AllReadyH.nil)
       unfold rop25
       go_simp
       (go_at_call 19; (with_reducible refine (HW1.out _ ?_).mono ?_); (focus ((refine Hms_75.out.below ?_); repeat (first | exact Below.refl _ _ | refine below_drw ?_ | refine below_to ?_ (by assumption)))); rintro e z2 ⟨rfl, bl2⟩)
       try go_wp2_with fail
       refine hK.out _ _ ?_ (fun hHeld2 => ?_)
       · (refine keepb6 BP_74 BM_76 BN_78 BA_80 BB_82 BX0 ?_; repeat (first | exact Below.refl _ _ | refine below_drw ?_ | refine below_to ?_ (by assumption)))
       clear hK K hHeld
       have hHeld := hHeld2
       clear hHeld2
       try simp only [rop25, Act.put, List.setIfInBounds_toArray, List.set_cons_zero, List.set_cons_succ]
       as_aux_lemma =>
        refine wpAnyH_ready (rs := [27]) (by as_aux_lemma => kernel_rfl) (by simp) ?_
        refine (AllReadyH.cons (o := rop27) rfl (fun K hK => ?_) AllReadyH.nil)
        unfold rop27
        go_simp
        (go_at_call 19; (with_reducible refine (HW2.out _ ?_).mono ?_); (focus ((refine Hps_73.out.below ?_); repeat (first | exact Below.refl _ _ | refine below_drw ?_ | refine below_to ?_ (by assumption)))); rintro e z3 ⟨rfl, bl3⟩)
        try go_wp2_with fail
        refine hK.out _ _ ?_ (fun hHeld2 => ?_)
        · (refine keepb6 BP_74 BM_76 BN_78 BA_80 BB_82 BX0 ?_; repeat (first | exact Below.refl _ _ | refine below_drw ?_ | refine below_to ?_ (by assumption)))
        clear hK K hHeld
        have hHeld := hHeld2
        clear hHeld2
        try simp only [rop27, Act.put, List.setIfInBounds_toArray, List.set_cons_zero, List.set_cons_succ]
        as_aux_lemma =>
         refine wpAnyH_take (i := 28) (oi := rop28) (v := ?_) rfl (by as_aux_lemma => kernel_rfl) (by as_aux_lemma => kernel_rfl) (by as_aux_lemma => kernel_rfl) (fun _ _ _ h => h) (Or.inl ⟨by rfl, ?_⟩) (by assumption) ?_
         rotate_left
         · unfold rop28; intro w hSw; (try dsimp only at hSw); go_simp; try (with_reducible rfl)
         try simp only [rop28, Act.put, List.setIfInBounds_toArray, List.set_cons_zero, List.set_cons_succ]
         refine wpAnyH_take (i := 29) (oi := rop29) (v := ?_) rfl (by as_aux_lemma => kernel_rfl) (by as_aux_lemma => kernel_rfl) (by as_aux_lemma => kernel_rfl) (fun _ _ _ h => h) (Or.inl ⟨by rfl, ?_⟩) (by assumption) ?_
         rotate_left
         · unfold rop29; intro w hSw; (try dsimp only at hSw); go_simp; try (with_reducible rfl)
         try simp only [rop29, Act.put, List.setIfInBounds_toArray, List.set_cons_zero, List.set_cons_succ]
         refine wpAnyH_take (i := 30) (oi := rop30) (v := ?_) rfl (by as_aux_lemma => kernel_rfl) (by as_aux_lemma => kernel_rfl) (by as_aux_lemma => kernel_rfl) (fun _ _ _ h => h) (Or.inl ⟨by rfl, ?_⟩) (by assumption) ?_
         rotate_left
         · unfold rop30; intro w hSw; (try dsimp only at hSw); go_simp; try (with_reducible rfl)
         try simp only [rop30, Act.put, List.setIfInBounds_toArray, List.set_cons_zero, List.set_cons_succ]
         refine wpAnyH_take (i := 31) (oi := rop31) (v := ?_) rfl (by as_aux_lemma => kernel_rfl) (by as_aux_lemma => kernel_rfl) (by as_aux_lemma => kernel_rfl) (fun _ _ _ h => h) (Or.inl ⟨by rfl, ?_⟩) (by assumption) ?_
         rotate_left
         · unfold rop31; intro w hSw; (try dsimp only at hSw); go_simp; try (with_reducible rfl)
         try simp only [rop31, Act.put, List.setIfInBounds_toArray, List.set_cons_zero, List.set_cons_succ]
         refine wpAnyH_take (i := 33) (oi := rop33) (v := ?_) rfl (by as_aux_lemma => kernel_rfl) (by as_aux_lemma => kernel_rfl) (by as_aux_lemma => kernel_rfl) (fun _ _ _ h => h) (Or.inl ⟨by rfl, ?_⟩) (by assumption) ?_
         rotate_left
         · unfold rop33; intro w hSw; (try dsimp only at hSw); go_simp; try (with_reducible rfl)
         try simp only [rop33, Act.put, List.setIfInBounds_toArray, List.set_cons_zero, List.set_cons_succ]
         refine wpAnyH_ready (rs := [32]) (by as_aux_lemma => kernel_rfl) (by simp) ?_
         refine (AllReadyH.cons (o := rop32) rfl (fun K hK => ?_) AllReadyH.nil)
         unfold rop32
         go_simp
         (go_at_call 19; (with_reducible refine (HW3.out _ ?_).mono ?_); (focus ((refine Has_79.out.below ?_); repeat (first | exact Below.refl _ _ | refine below_drw ?_ | refine below_to ?_ (by assumption)))); rintro e z4 ⟨rfl, bl4⟩)
         try go_wp2_with fail
         refine hK.out _ _ ?_ (fun hHeld2 => ?_)
         · (refine keepb6 BP_74 BM_76 BN_78 BA_80 BB_82 BX0 ?_; repeat (first | exact Below.refl _ _ | refine below_drw ?_ | refine below_to ?_ (by assumption)))
         clear hK K hHeld
         have hHeld := hHeld2
         clear hHeld2
         try simp only [rop32, Act.put, List.setIfInBounds_toArray, List.set_cons_zero, List.set_cons_succ]
         as_aux_lemma =>
          refine wpAnyH_ready (rs := [34]) (by as_aux_lemma => kernel_rfl) (by simp) ?_
          refine (AllReadyH.cons (o := rop34) rfl (fun K hK => ?_) AllReadyH.nil)
          unfold rop34
          go_simp
          (go_at_call 19; (with_reducible refine (HW2.out _ ?_).mono ?_); (focus ((refine Hps_73.out.below ?_); repeat (first | exact Below.refl _ _ | refine below_drw ?_ | refine below_to ?_ (by assumption)))); rintro e z5 ⟨rfl, bl5⟩)
          try go_wp2_with fail
          refine hK.out _ _ ?_ (fun hHeld2 => ?_)
          · (refine keepb6 BP_74 BM_76 BN_78 BA_80 BB_82 BX0 ?_; repeat (first | exact Below.refl _ _ | refine below_drw ?_ | refine below_to ?_ (by assumption)))
          clear hK K hHeld
          have hHeld := hHeld2
          clear hHeld2
          try simp only [rop34, Act.put, List.setIfInBounds_toArray, List.set_cons_zero, List.set_cons_succ]
          as_aux_lemma =>
           refine wpAnyH_take (i := 35) (oi := rop35) (v := ?_) rfl (by as_aux_lemma => kernel_rfl) (by as_aux_lemma => kernel_rfl) (by as_aux_lemma => kernel_rfl) (fun _ _ _ h => h) (Or.inl ⟨by rfl, ?_⟩) (by assumption) ?_
           rotate_left
           · unfold rop35; intro w hSw; (try dsimp only at hSw); go_simp; try (with_reducible rfl)
           try simp only [rop35, Act.put, List.setIfInBounds_toArray, List.set_cons_zero, List.set_cons_succ]
           refine wpAnyH_take (i := 36) (oi := rop36) (v := ?_) rfl (by as_aux_lemma => kernel_rfl) (by as_aux_lemma => kernel_rfl) (by as_aux_lemma => kernel_rfl) (fun _ _ _ h => h) (Or.inl ⟨by rfl, ?_⟩) (by assumption) ?_
           rotate_left
           · unfold rop36; intro w hSw; (try dsimp only at hSw); go_simp; try (with_reducible rfl)
           try simp only [rop36, Act.put, List.setIfInBounds_toArray, List.set_cons_zero, List.set_cons_succ]
           refine wpAnyH_take (i := 37) (oi := rop37) (v := ?_) rfl (by as_aux_lemma => kernel_rfl) (by as_aux_lemma => kernel_rfl) (by as_aux_lemma => kernel_rfl) (fun _ _ _ h => h) (Or.inl ⟨by rfl, ?_⟩) (by assumption) ?_
           rotate_left
           · unfold rop37; intro w hSw; (try dsimp only at hSw); go_simp; try (with_reducible rfl)
           try simp only [rop37, Act.put, List.setIfInBounds_toArray, List.set_cons_zero, List.set_cons_succ]
           refine wpAnyH_take (i := 38) (oi := rop38) (v := ?_) rfl (by as_aux_lemma => kernel_rfl) (by as_aux_lemma => kernel_rfl) (by as_aux_lemma => kernel_rfl) (fun _ _ _ h => h) (Or.inl ⟨by rfl, ?_⟩) (by assumption) ?_
           rotate_left
           · unfold rop38; intro w hSw; (try dsimp only at hSw); go_simp; try (with_reducible rfl)
           try simp only [rop38, Act.put, List.setIfInBounds_toArray, List.set_cons_zero, List.set_cons_succ]
           refine wpAnyH_ready (rs := [39]) (by as_aux_lemma => kernel_rfl) (by simp) ?_
           refine (AllReadyH.cons (o := rop39) rfl (fun K hK => ?_) AllReadyH.nil)
           unfold rop39
           go_simp
           (go_at_call 19; (with_reducible refine (HW5.out _ ?_).mono ?_); (focus ((refine Hxs_83.out.below ?_); repeat (first | exact Below.refl _ _ | refine below_drw ?_ | refine below_to ?_ (by assumption)))); rintro e z6 ⟨rfl, bl6⟩)
           try go_wp2_with fail
           refine hK.out _ _ ?_ (fun hHeld2 => ?_)
           · (refine keepb6 BP_74 BM_76 BN_78 BA_80 BB_82 BX0 ?_; repeat (first | exact Below.refl _ _ | refine below_drw ?_ | refine below_to ?_ (by assumption)))
           clear hK K hHeld
           have hHeld := hHeld2
           clear hHeld2
           try simp only [rop39, Act.put, List.setIfInBounds_toArray, List.set_cons_zero, List.set_cons_succ]
           as_aux_lemma =>
            refine wpAnyH_take (i := 40) (oi := rop40) (v := ?_) rfl (by as_aux_lemma => kernel_rfl) (by as_aux_lemma => kernel_rfl) (by as_aux_lemma => kernel_rfl) (fun _ _ _ h => h) (Or.inl ⟨by rfl, ?_⟩) (by assumption) ?_
            rotate_left
            · unfold rop40; intro w hSw; (try dsimp only at hSw); go_simp; try (with_reducible rfl)
            try simp only [rop40, Act.put, List.setIfInBounds_toArray, List.set_cons_zero, List.set_cons_succ]
            refine wpAnyH_take (i := 41) (oi := rop41) (v := ?_) rfl (by as_aux_lemma => kernel_rfl) (by as_aux_lemma => kernel_rfl) (by as_aux_lemma => kernel_rfl) (fun _ _ _ h => h) (Or.inl ⟨by rfl, ?_⟩) (by assumption) ?_
            rotate_left
            · unfold rop41; intro w hSw; (try dsimp only at hSw); go_simp; try (with_reducible rfl)
            try simp only [rop41, Act.put, List.setIfInBounds_toArray, List.set_cons_zero, List.set_cons_succ]
            refine wpAnyH_take (i := 42) (oi := rop42) (v := ?_) rfl (by as_aux_lemma => kernel_rfl) (by as_aux_lemma => kernel_rfl) (by as_aux_lemma => kernel_rfl) (fun _ _ _ h => h) (Or.inl ⟨by rfl, ?_⟩) (by assumption) ?_
            rotate_left
            · unfold rop42; intro w hSw; (try dsimp only at hSw); go_simp; try (with_reducible rfl)
            try simp only [rop42, Act.put, List.setIfInBounds_toArray, List.set_cons_zero, List.set_cons_succ]
            refine wpAnyH_ready (rs := [43]) (by as_aux_lemma => kernel_rfl) (by simp) ?_
            refine (AllReadyH.cons (o := rop43) rfl (fun K hK => ?_) AllReadyH.nil)
            unfold rop43
            go_simp
            (go_at_call 42; (with_reducible refine (HFR.out _).mono ?_); rintro e z7 ⟨af, cf, rfl, hof, bl7⟩)
            try go_wp2_with fail
            refine hK.out _ _ ?_ (fun hHeld2 => ?_)
            · (refine keepb6 BP_74 BM_76 BN_78 BA_80 BB_82 BX0 ?_; repeat (first | exact Below.refl _ _ | refine below_drw ?_ | refine below_to ?_ (by assumption)))
            clear hK K hHeld
            have hHeld := hHeld2
            clear hHeld2
            try simp only [rop43, Act.put, List.setIfInBounds_toArray, List.set_cons_zero, List.set_cons_succ]
            as_aux_lemma =>
             refine wpAnyH_take (i := 44) (oi := rop44) (v := ?_) rfl (by as_aux_lemma => kernel_rfl) (by as_aux_lemma => kernel_rfl) (by as_aux_lemma => kernel_rfl) (fun _ _ _ h => h) (Or.inl ⟨by rfl, ?_⟩) (by assumption) ?_
             rotate_left
             · unfold rop44; intro w hSw; (try dsimp only at hSw); go_simp; try (with_reducible rfl)
             try simp only [rop44, Act.put, List.setIfInBounds_toArray, List.set_cons_zero, List.set_cons_succ]
             refine wpAnyH_take (i := 45) (oi := rop45) (v := ?_) rfl (by as_aux_lemma => kernel_rfl) (by as_aux_lemma => kernel_rfl) (by as_aux_lemma => kernel_rfl) (fun _ _ _ h => h) (Or.inl ⟨by rfl, ?_⟩) (by assumption) ?_
             rotate_left
             · unfold rop45; intro w hSw; (try dsimp only at hSw); go_simp; try (with_reducible rfl)
             try simp only [rop45, Act.put, List.setIfInBounds_toArray, List.set_cons_zero, List.set_cons_succ]
             refine wpAnyH_take (i := 46) (oi := rop46) (v := ?_) rfl (by as_aux_lemma => kernel_rfl) (by as_aux_lemma => kernel_rfl) (by as_aux_lemma => kernel_rfl) (fun _ _ _ h => h) (Or.inl ⟨by rfl, ?_⟩) (by assumption) ?_
             rotate_left
             · unfold rop46; intro w hSw; (try dsimp only at hSw); go_simp; try (with_reducible rfl)
             try simp only [rop46, Act.put, List.setIfInBounds_toArray, List.set_cons_zero, List.set_cons_succ]
             refine wpAnyH_take (i := 47) (oi := rop47) (v := ?_) rfl (by as_aux_lemma => kernel_rfl) (by as_aux_lemma => kernel_rfl) (by as_aux_lemma => kernel_rfl) (fun _ _ _ h => h) (Or.inl ⟨by rfl, ?_⟩) (by assumption) ?_
             rotate_left
             · unfold rop47; intro w hSw; (try dsimp only at hSw); go_simp; try (with_reducible rfl)
             try simp only [rop47, Act.put, List.setIfInBounds_toArray, List.set_cons_zero, List.set_cons_succ]
             refine wpAnyH_done (by kernel_rfl) ?_ _
             go_wp2_with fail
             go_meet
             refine ⟨rfl, ?_⟩
             repeat (first | exact Below.refl _ _ | refine below_drw ?_ | refine below_to ?_ (by assumption))
  case rest =>
    obtain ⟨rfl, hb6⟩ := hcut
    rename World => wd
    have b_84 := below_to b_72 hb6
    have Hps_85 := Lib.hid (Hps_73.out.below hb6)
    have BP_86 := BP_74.to hb6
    have Hms_87 := Lib.hid (Hms_75.out.below hb6)
    have BM_88 := BM_76.to hb6
    have Hns_89 := Lib.hid (Hns_77.out.below hb6)
    have BN_90 := BN_78.to hb6
    have Has_91 := Lib.hid (Has_79.out.below hb6)
    have BA_92 := BA_80.to hb6
    have Hbs_93 := Lib.hid (Hbs_81.out.below hb6)
    have BB_94 := BB_82.to hb6
    have Hxs_95 := Lib.hid (Hxs_83.out.below hb6)
    have BX_96 := BX0.to hb6
    clear b_72 Hps_73 BP_74 Hms_75 BM_76 Hns_77 BN_78 Has_79 BA_80 Hbs_81 BB_82 Hxs_83 BX0
    go_wp2
    go_ret
    exact ⟨rfl, b_84⟩
end Go.Proofs.Ytfndkapjclhflaa
