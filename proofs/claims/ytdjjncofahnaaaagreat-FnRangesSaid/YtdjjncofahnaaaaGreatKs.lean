/- SameRooms of the program and of the model, over the translation. -/
import Derived.Test.YtdjjncofahnaaaaGreatKc
namespace Go.Proofs.YtdjjncofahnaaaaGreat
open Go.RowKit
open Geo (H3)

/-- whether two lists of ints are equal -/
def sameI (xs ys : List Int) : Bool := decide (xs = ys)
theorem sameI_no {xs ys : List Int} (h : xs ≠ ys) : sameI xs ys = false := by unfold sameI; simpa using h
theorem sameI_len {xs ys : List Int} {n m : Nat} (h1 : xs.length = n) (h2 : ys.length = m) (h : n ≠ m) : sameI xs ys = false := sameI_no (by rintro rfl; omega)
theorem sameI_at {xs ys : List Int} {k : Nat} {x y : Int} (h1 : xs[k]? = some x) (h2 : ys[k]? = some y) (h : x ≠ y) : sameI xs ys = false := sameI_no (by rintro rfl; rw [h1] at h2; exact h (Option.some.inj h2))
theorem sameI_all {xs ys : List Int} {n : Nat} (h1 : xs.length = n) (h2 : ys.length = n) (h : xs.take n = ys.take n) : sameI xs ys = true := by
  rw [List.take_of_length_le (by omega), List.take_of_length_le (by omega)] at h
  unfold sameI; simpa using h
theorem takeI_next {xs ys : List Int} {k : Nat} {x : Int} (h1 : xs[k]? = some x) (h2 : ys[k]? = some x) (h : xs.take k = ys.take k) : xs.take (k + 1) = ys.take (k + 1) := by
  rw [List.take_add_one, List.take_add_one, h1, h2, h]
set_option maxHeartbeats 1600000 in
theorem equal_ints (a b : Option Addr) (n m ca cb : Nat) (xs ys : List Int) (w : World) (hl : xs.length = n) (hl2 : ys.length = m) (hn : n ≤ 1048576) (hA : IsAt w a xs) (hB : IsAt w b ys) :
    Calls Tryz.prog 120 #[.slice a n ca, .slice b m cb] w fun e w' => e = .returned (.bool (sameI xs ys)) ∧ Below w.heap.size w w' := by
  have HL := Lib.hid hl
  have HM := Lib.hid hl2
  have HA := Lib.hid hA
  have HB := Lib.hid hB
  clear hl hl2 hA hB
  by_cases hnm : n = m
  · subst hnm
    go_enter Tryz.func120, Tryz.ntmps120
    go_wp2
    go_loopw [13] (fun i wr => ∃ k q : Nat, k ≤ n ∧ i = .int .i64 k ∧ xs.take k = ys.take k ∧ wr = w.drewN q) (fun i _ => n - (intOf i).toNat)
    case atStart => exact ⟨0, 0, Nat.zero_le _, rfl, by simp, rfl⟩
    case round =>
      obtain ⟨k, q, hk, rfl, ht, rfl⟩ := hrel
      have HT := Lib.hid ht
      clear ht
      by_cases hlt : k < n
      · obtain ⟨x, hx⟩ : ∃ x, xs[k]? = some x := ⟨_, List.getElem?_eq_getElem (by rw [HL.out]; exact hlt)⟩
        obtain ⟨y, hy⟩ : ∃ x, ys[k]? = some x := ⟨_, List.getElem?_eq_getElem (by rw [HM.out]; exact hlt)⟩
        obtain ⟨g, o, rfl, t1⟩ := HA.out k _ hx
        obtain ⟨g2, o2, rfl, s1⟩ := HB.out k _ hy
        have HX := Lib.hid hx
        have HY := Lib.hid hy
        clear hx hy
        by_cases he : x = y
        · subst he
          go_wp2
          go_quiet (fail)
          go_wp2
          go_roundw
          case rel => exact ⟨k + 1, _, by omega, by go_num, takeI_next HX.out HY.out HT.out, rfl⟩
          case measure => simp [intOf]; omega
        · have HN := Lib.hid (sameI_at HX.out HY.out he)
          have hb := eq_b he
          clear he
          go_wp2
          go_quiet (fail)
          go_wp2
          go_ret
          exact ⟨ret_bool HN.out.symm, by first | exact below_drewN w _ | (rw [drewN_drewN]; exact below_drewN w _) | exact below_drew (below_drewN w _) _⟩
      · have hkn : k = n := by omega
        subst hkn
        have HN := Lib.hid (sameI_all HL.out HM.out HT.out)
        go_wp2
        go_ret
        exact ⟨ret_bool HN.out.symm, below_drewN w q⟩
  · have HN := Lib.hid (sameI_len HL.out HM.out hnm)
    go_enter Tryz.func120, Tryz.ntmps120
    go_wp2
    go_ret
    exact ⟨ret_bool HN.out.symm, Below.refl _ _⟩
/-- whether two models are equal -/
def smB (zs : List Int) (q bx cy : Int) (zs2 : List Int) (q2 bx2 cy2 : Int) : Bool := sameI zs zs2 && decide (q = q2) && decide (bx = bx2) && decide (cy = cy2)
/-- whether two rooms are equal -/
def srB (zs : List Int) (q bx cy lo hi : Int) (ps qs : List H3) (zs2 : List Int) (q2 bx2 cy2 lo2 hi2 : Int) (ps2 qs2 : List H3) : Bool := smB zs q bx cy zs2 q2 bx2 cy2 && decide (lo = lo2) && decide (hi = hi2) && sameB ps ps2 && sameB qs qs2

set_option maxRecDepth 100000 in
set_option maxHeartbeats 1600000 in
theorem impl_smo (am : Option Addr) (nm cm : Nat) (zs : List Int) (q bx cy : Int) (am2 : Option Addr) (nm2 cm2 : Nat) (zs2 : List Int) (q2 bx2 cy2 : Int) (w : World) (b : Bool) (hb : smB zs q bx cy zs2 q2 bx2 cy2 = b) (hl : zs.length = nm) (hl2 : zs2.length = nm2) (hn : nm ≤ 1048576) (hA : IsAt w am zs) (hB : IsAt w am2 zs2) :
    Calls Tryz.prog 69 #[.agg #[.slice am nm cm, .int .i64 q, .int .i64 bx, .int .i64 cy], .agg #[.slice am2 nm2 cm2, .int .i64 q2, .int .i64 bx2, .int .i64 cy2]] w fun e w' => e = .returned (.bool b) ∧ Below w.heap.size w w' := by
  have bV := below_bx2 (below_one w (.cells #[.slice am nm cm, .int .i64 q, .int .i64 bx, .int .i64 cy] 79)) (.cells #[.slice am2 nm2 cm2, .int .i64 q2, .int .i64 bx2, .int .i64 cy2] 79)
  have K0 := (blk_new w #[.slice am nm cm, .int .i64 q, .int .i64 bx, .int .i64 cy] 79 rfl).to (below_one _ (.cells #[.slice am2 nm2 cm2, .int .i64 q2, .int .i64 bx2, .int .i64 cy2] 79))
  have K1 := blk_new (w.alloc (.cells #[.slice am nm cm, .int .i64 q, .int .i64 bx, .int .i64 cy] 79)) #[.slice am2 nm2 cm2, .int .i64 q2, .int .i64 bx2, .int .i64 cy2] 79 (b := w.heap.size + 1) (by simp)
  have k0 := K0.cell0 (i := 0) (v := .slice am nm cm) rfl
  have l0 := K1.cell0 (i := 0) (v := .slice am2 nm2 cm2) rfl
  have HE := Lib.hid (fun V (h : Below w.heap.size w V) => equal_ints am am2 nm nm2 cm cm2 zs zs2 V hl hl2 hn (hA.below h) (hB.below h))
  have HB := Lib.hid (show (sameI zs zs2 && decide (q = q2) && decide (bx = bx2) && decide (cy = cy2)) = b from hb)
  clear hl hl2 hA hB hb
  generalize sameI zs zs2 = r at *
  go_enter Tryz.func69, Tryz.ntmps69
  go_wp2_with fail
  generalize (w.alloc (.cells #[.slice am nm cm, .int .i64 q, .int .i64 bx, .int .i64 cy] 79)).alloc (.cells #[.slice am2 nm2 cm2, .int .i64 q2, .int .i64 bx2, .int .i64 cy2] 79) = V at *
  refine (HE.out _ bV).mono ?_
  rintro e w1 ⟨rfl, bl1⟩
  have b1 := below_to bV bl1
  have L0 := K0.to bl1
  have L1 := K1.to bl1
  clear bV bl1 K0 K1 k0 l0 HE
  have k1 := L0.cell0 (i := 1) (v := .int .i64 q) rfl
  have l1 := L1.cell0 (i := 1) (v := .int .i64 q2) rfl
  have k2 := L0.cell0 (i := 2) (v := .int .i64 bx) rfl
  have l2 := L1.cell0 (i := 2) (v := .int .i64 bx2) rfl
  have k3 := L0.cell0 (i := 3) (v := .int .i64 cy) rfl
  have l3 := L1.cell0 (i := 3) (v := .int .i64 cy2) rfl
  clear L0 L1
  cases r with
  | false =>
    have HN := Lib.hid (show false = b by rw [← HB.out]; rfl)
    go_wp2
    go_ret
    exact ⟨ret_bool HN.out, b1⟩
  | true =>
    by_cases h1 : q = q2
    · subst h1
      by_cases h2 : bx = bx2
      · subst h2
        have HN := Lib.hid (show decide (cy = cy2) = b by rw [← HB.out]; simp)
        go_wp2
        go_ret
        exact ⟨ret_bool (by rw [← HN.out]; first | rfl | (simp; done)), b1⟩
      · have HN := Lib.hid (show false = b by rw [← HB.out]; simp [h2])
        have e2 : (bx == bx2) = false := eq_b h2
        clear h2
        go_wp2
        go_ret
        exact ⟨ret_bool HN.out, b1⟩
    · have HN := Lib.hid (show false = b by rw [← HB.out]; simp [h1])
      have e1 : (q == q2) = false := eq_b h1
      clear h1
      go_wp2
      go_ret
      exact ⟨ret_bool HN.out, b1⟩
def sop0 : Oper :=
  { dst := some 5, op := Op.load 28 (Operand.tmp 2), type := 28, pos := "l08_room.go:70", after := #[], guard := none }
def sop1 : Oper :=
  { dst := some 6, op := Op.call { callee := Callee.value (Operand.func 47), args := #[Operand.tmp 5], argTypes := #[28] }, type := 81, pos := "l08_room.go:70", after := #[{ on := 0, ground := Ground.data }], guard := none }
def sop2 : Oper :=
  { dst := some 7, op := Op.field 81 (Operand.tmp 6) 0, type := 79, pos := "l08_room.go:70", after := #[{ on := 1, ground := Ground.data }], guard := none }
def sop3 : Oper :=
  { dst := some 8, op := Op.load 28 (Operand.tmp 3), type := 28, pos := "l08_room.go:70", after := #[], guard := none }
def sop4 : Oper :=
  { dst := some 9, op := Op.call { callee := Callee.value (Operand.func 47), args := #[Operand.tmp 8], argTypes := #[28] }, type := 81, pos := "l08_room.go:70", after := #[{ on := 3, ground := Ground.data }, { on := 1, ground := Ground.chain }], guard := none }
def sop5 : Oper :=
  { dst := some 10, op := Op.field 81 (Operand.tmp 9) 0, type := 79, pos := "l08_room.go:70", after := #[{ on := 4, ground := Ground.data }], guard := none }
def sop6 : Oper :=
  { dst := some 11, op := Op.call { callee := Callee.value (Operand.func 69), args := #[Operand.tmp 7, Operand.tmp 10], argTypes := #[79, 79] }, type := 4, pos := "l08_room.go:70", after := #[{ on := 2, ground := Ground.data }, { on := 5, ground := Ground.data }, { on := 4, ground := Ground.chain }], guard := none }
def sop7 : Oper :=
  { dst := some 12, op := Op.move (Operand.tmp 11), type := 4, pos := "l08_room.go:70", after := #[{ on := 6, ground := Ground.data }, { on := 6, ground := Ground.chain }], guard := none }
def sop8 : Oper :=
  { dst := some 13, op := Op.fieldAddr 28 (Operand.tmp 2) 4, type := 0, pos := "l08_room.go:70", after := #[{ on := 7, ground := Ground.guard }], guard := some (7, true) }
def sop9 : Oper :=
  { dst := some 14, op := Op.load 3 (Operand.tmp 13), type := 3, pos := "l08_room.go:70", after := #[{ on := 8, ground := Ground.data }, { on := 7, ground := Ground.guard }], guard := some (7, true) }
def sop10 : Oper :=
  { dst := some 15, op := Op.fieldAddr 28 (Operand.tmp 3) 4, type := 0, pos := "l08_room.go:70", after := #[{ on := 7, ground := Ground.guard }], guard := some (7, true) }
def sop11 : Oper :=
  { dst := some 16, op := Op.load 3 (Operand.tmp 15), type := 3, pos := "l08_room.go:70", after := #[{ on := 10, ground := Ground.data }, { on := 7, ground := Ground.guard }], guard := some (7, true) }
def sop12 : Oper :=
  { dst := some 17, op := Op.binOp BinOp.eql 3 (Operand.tmp 14) (Operand.tmp 16) 3, type := 4, pos := "l08_room.go:70", after := #[{ on := 9, ground := Ground.data }, { on := 11, ground := Ground.data }, { on := 7, ground := Ground.guard }], guard := some (7, true) }
def sop13 : Oper :=
  { dst := some 18, op := Op.pick (Operand.tmp 12) (Operand.tmp 17) (Operand.const (Value.bool false)), type := 4, pos := "l08_room.go:70", after := #[{ on := 7, ground := Ground.data }, { on := 12, ground := Ground.data }], guard := none }
def sop14 : Oper :=
  { dst := some 19, op := Op.move (Operand.tmp 18), type := 4, pos := "l08_room.go:70", after := #[{ on := 13, ground := Ground.data }, { on := 7, ground := Ground.chain }], guard := none }
def sop15 : Oper :=
  { dst := some 20, op := Op.fieldAddr 28 (Operand.tmp 2) 5, type := 0, pos := "l08_room.go:70", after := #[{ on := 14, ground := Ground.guard }], guard := some (14, true) }
def sop16 : Oper :=
  { dst := some 21, op := Op.load 3 (Operand.tmp 20), type := 3, pos := "l08_room.go:70", after := #[{ on := 15, ground := Ground.data }, { on := 14, ground := Ground.guard }], guard := some (14, true) }
def sop17 : Oper :=
  { dst := some 22, op := Op.fieldAddr 28 (Operand.tmp 3) 5, type := 0, pos := "l08_room.go:70", after := #[{ on := 14, ground := Ground.guard }], guard := some (14, true) }
def sop18 : Oper :=
  { dst := some 23, op := Op.load 3 (Operand.tmp 22), type := 3, pos := "l08_room.go:70", after := #[{ on := 17, ground := Ground.data }, { on := 14, ground := Ground.guard }], guard := some (14, true) }
def sop19 : Oper :=
  { dst := some 24, op := Op.binOp BinOp.eql 3 (Operand.tmp 21) (Operand.tmp 23) 3, type := 4, pos := "l08_room.go:70", after := #[{ on := 16, ground := Ground.data }, { on := 18, ground := Ground.data }, { on := 14, ground := Ground.guard }], guard := some (14, true) }
def sop20 : Oper :=
  { dst := some 25, op := Op.pick (Operand.tmp 19) (Operand.tmp 24) (Operand.const (Value.bool false)), type := 4, pos := "l08_room.go:70", after := #[{ on := 14, ground := Ground.data }, { on := 19, ground := Ground.data }], guard := none }
def sop21 : Oper :=
  { dst := some 26, op := Op.move (Operand.tmp 25), type := 4, pos := "l08_room.go:70", after := #[{ on := 20, ground := Ground.data }, { on := 14, ground := Ground.chain }], guard := none }
def sop22 : Oper :=
  { dst := some 27, op := Op.fieldAddr 28 (Operand.tmp 2) 6, type := 0, pos := "l08_room.go:70", after := #[{ on := 21, ground := Ground.guard }], guard := some (21, true) }
def sop23 : Oper :=
  { dst := some 28, op := Op.load 26 (Operand.tmp 27), type := 26, pos := "l08_room.go:70", after := #[{ on := 22, ground := Ground.data }, { on := 21, ground := Ground.guard }], guard := some (21, true) }
def sop24 : Oper :=
  { dst := some 29, op := Op.fieldAddr 28 (Operand.tmp 3) 6, type := 0, pos := "l08_room.go:70", after := #[{ on := 21, ground := Ground.guard }], guard := some (21, true) }
def sop25 : Oper :=
  { dst := some 30, op := Op.load 26 (Operand.tmp 29), type := 26, pos := "l08_room.go:70", after := #[{ on := 24, ground := Ground.data }, { on := 21, ground := Ground.guard }], guard := some (21, true) }
def sop26 : Oper :=
  { dst := some 31, op := Op.call { callee := Callee.value (Operand.func 21), args := #[Operand.tmp 28, Operand.tmp 30], argTypes := #[26, 26] }, type := 4, pos := "l08_room.go:71", after := #[{ on := 23, ground := Ground.data }, { on := 25, ground := Ground.data }, { on := 21, ground := Ground.chain }, { on := 21, ground := Ground.guard }], guard := some (21, true) }
def sop27 : Oper :=
  { dst := some 32, op := Op.pick (Operand.tmp 26) (Operand.tmp 31) (Operand.const (Value.bool false)), type := 4, pos := "l08_room.go:70", after := #[{ on := 21, ground := Ground.data }, { on := 26, ground := Ground.data }], guard := none }
def sop28 : Oper :=
  { dst := some 33, op := Op.move (Operand.tmp 32), type := 4, pos := "l08_room.go:70", after := #[{ on := 27, ground := Ground.data }, { on := 26, ground := Ground.chain }], guard := none }
def sop29 : Oper :=
  { dst := some 34, op := Op.fieldAddr 28 (Operand.tmp 2) 7, type := 0, pos := "l08_room.go:70", after := #[{ on := 28, ground := Ground.guard }], guard := some (28, true) }
def sop30 : Oper :=
  { dst := some 35, op := Op.load 26 (Operand.tmp 34), type := 26, pos := "l08_room.go:70", after := #[{ on := 29, ground := Ground.data }, { on := 28, ground := Ground.guard }], guard := some (28, true) }
def sop31 : Oper :=
  { dst := some 36, op := Op.fieldAddr 28 (Operand.tmp 3) 7, type := 0, pos := "l08_room.go:70", after := #[{ on := 28, ground := Ground.guard }], guard := some (28, true) }
def sop32 : Oper :=
  { dst := some 37, op := Op.load 26 (Operand.tmp 36), type := 26, pos := "l08_room.go:70", after := #[{ on := 31, ground := Ground.data }, { on := 28, ground := Ground.guard }], guard := some (28, true) }
def sop33 : Oper :=
  { dst := some 38, op := Op.call { callee := Callee.value (Operand.func 21), args := #[Operand.tmp 35, Operand.tmp 37], argTypes := #[26, 26] }, type := 4, pos := "l08_room.go:71", after := #[{ on := 30, ground := Ground.data }, { on := 32, ground := Ground.data }, { on := 28, ground := Ground.chain }, { on := 28, ground := Ground.guard }], guard := some (28, true) }
def sop34 : Oper :=
  { dst := some 39, op := Op.pick (Operand.tmp 33) (Operand.tmp 38) (Operand.const (Value.bool false)), type := 4, pos := "l08_room.go:70", after := #[{ on := 28, ground := Ground.data }, { on := 33, ground := Ground.data }], guard := none }
def sop35 : Oper :=
  { dst := some 4, op := Op.assign (Operand.tmp 39), type := 4, pos := "l08_room.go:70", after := #[{ on := 34, ground := Ground.data }, { on := 33, ground := Ground.chain }, { on := 0, ground := Ground.phase }, { on := 1, ground := Ground.phase }, { on := 2, ground := Ground.phase }, { on := 3, ground := Ground.phase }, { on := 4, ground := Ground.phase }, { on := 5, ground := Ground.phase }, { on := 6, ground := Ground.phase }, { on := 7, ground := Ground.phase }, { on := 8, ground := Ground.phase }, { on := 9, ground := Ground.phase }, { on := 10, ground := Ground.phase }, { on := 11, ground := Ground.phase }, { on := 12, ground := Ground.phase }, { on := 13, ground := Ground.phase }, { on := 14, ground := Ground.phase }, { on := 15, ground := Ground.phase }, { on := 16, ground := Ground.phase }, { on := 17, ground := Ground.phase }, { on := 18, ground := Ground.phase }, { on := 19, ground := Ground.phase }, { on := 20, ground := Ground.phase }, { on := 21, ground := Ground.phase }, { on := 22, ground := Ground.phase }, { on := 23, ground := Ground.phase }, { on := 24, ground := Ground.phase }, { on := 25, ground := Ground.phase }, { on := 26, ground := Ground.phase }, { on := 27, ground := Ground.phase }, { on := 28, ground := Ground.phase }, { on := 29, ground := Ground.phase }, { on := 30, ground := Ground.phase }, { on := 31, ground := Ground.phase }, { on := 32, ground := Ground.phase }, { on := 33, ground := Ground.phase }, { on := 34, ground := Ground.phase }], guard := none }
theorem room16s {V X : World} {B C : Nat} {a0 a1 a2 a3 a4 a5 a6 a7 b0 b1 b2 b3 b4 b5 b6 b7 : Value} {T U : TypeId} (h : Blk V B #[a0, a1, a2, a3, a4, a5, a6, a7] T) (k : Blk V C #[b0, b1, b2, b3, b4, b5, b6, b7] U) (hb : Below V.heap.size V X) :
    X.cell? ⟨B, 0, none⟩ = some a0 ∧ X.cell? ⟨B, 1, none⟩ = some a1 ∧ X.cell? ⟨B, 2, none⟩ = some a2 ∧ X.cell? ⟨B, 3, none⟩ = some a3 ∧ X.cell? ⟨B, 4, none⟩ = some a4 ∧ X.cell? ⟨B, 5, none⟩ = some a5 ∧ X.cell? ⟨B, 6, none⟩ = some a6 ∧ X.cell? ⟨B, 7, none⟩ = some a7 ∧ X.cell? ⟨C, 0, none⟩ = some b0 ∧ X.cell? ⟨C, 1, none⟩ = some b1 ∧ X.cell? ⟨C, 2, none⟩ = some b2 ∧ X.cell? ⟨C, 3, none⟩ = some b3 ∧ X.cell? ⟨C, 4, none⟩ = some b4 ∧ X.cell? ⟨C, 5, none⟩ = some b5 ∧ X.cell? ⟨C, 6, none⟩ = some b6 ∧ X.cell? ⟨C, 7, none⟩ = some b7 :=
  ⟨(h.to hb).c8_0, (h.to hb).c8_1, (h.to hb).c8_2, (h.to hb).c8_3, (h.to hb).c8_4, (h.to hb).c8_5, (h.to hb).c8_6, (h.to hb).c8_7, (k.to hb).c8_0, (k.to hb).c8_1, (k.to hb).c8_2, (k.to hb).c8_3, (k.to hb).c8_4, (k.to hb).c8_5, (k.to hb).c8_6, (k.to hb).c8_7⟩
set_option maxRecDepth 20000 in
set_option maxHeartbeats 40000000 in
theorem impl_sro (am : Option Addr) (nm cm : Nat) (zs : List Int) (q bx cy lo hi : Int) (an : Option Addr) (nn cn : Nat) (ps : List H3) (al : Option Addr) (nl cl : Nat) (qs : List H3) (am2 : Option Addr) (nm2 cm2 : Nat) (zs2 : List Int) (q2 bx2 cy2 lo2 hi2 : Int) (an2 : Option Addr) (nn2 cn2 : Nat) (ps2 : List H3) (al2 : Option Addr) (nl2 cl2 : Nat) (qs2 : List H3) (w : World) (b : Bool) (hb : srB zs q bx cy lo hi ps qs zs2 q2 bx2 cy2 lo2 hi2 ps2 qs2 = b) (hA : RAt w am nm zs an nn ps al nl qs) (hB : RAt w am2 nm2 zs2 an2 nn2 ps2 al2 nl2 qs2) (hle : nm + nn + nl ≤ 1048576) :
    Calls Tryz.prog 26 #[.agg #[.slice am nm cm, .int .i64 q, .int .i64 bx, .int .i64 cy, .int .i64 lo, .int .i64 hi, .slice an nn cn, .slice al nl cl], .agg #[.slice am2 nm2 cm2, .int .i64 q2, .int .i64 bx2, .int .i64 cy2, .int .i64 lo2, .int .i64 hi2, .slice an2 nn2 cn2, .slice al2 nl2 cl2]] w fun e w' => e = .returned (.bool b) ∧ Below w.heap.size w w' := by
  have bV := below_bx2 (below_one w (.cells #[.slice am nm cm, .int .i64 q, .int .i64 bx, .int .i64 cy, .int .i64 lo, .int .i64 hi, .slice an nn cn, .slice al nl cl] 28)) (.cells #[.slice am2 nm2 cm2, .int .i64 q2, .int .i64 bx2, .int .i64 cy2, .int .i64 lo2, .int .i64 hi2, .slice an2 nn2 cn2, .slice al2 nl2 cl2] 28)
  have K0 := (blk_new w #[.slice am nm cm, .int .i64 q, .int .i64 bx, .int .i64 cy, .int .i64 lo, .int .i64 hi, .slice an nn cn, .slice al nl cl] 28 rfl).to (below_one _ (.cells #[.slice am2 nm2 cm2, .int .i64 q2, .int .i64 bx2, .int .i64 cy2, .int .i64 lo2, .int .i64 hi2, .slice an2 nn2 cn2, .slice al2 nl2 cl2] 28))
  have K1 := blk_new (w.alloc (.cells #[.slice am nm cm, .int .i64 q, .int .i64 bx, .int .i64 cy, .int .i64 lo, .int .i64 hi, .slice an nn cn, .slice al nl cl] 28)) #[.slice am2 nm2 cm2, .int .i64 q2, .int .i64 bx2, .int .i64 cy2, .int .i64 lo2, .int .i64 hi2, .slice an2 nn2 cn2, .slice al2 nl2 cl2] 28 (b := w.heap.size + 1) (by simp)
  have HW := Lib.hid (fun V => impl_wm am nm cm q bx cy lo hi an nn cn al nl cl V)
  have HW2 := Lib.hid (fun V => impl_wm am2 nm2 cm2 q2 bx2 cy2 lo2 hi2 an2 nn2 cn2 al2 nl2 cl2 V)
  have HM := Lib.hid (fun V (h : Below w.heap.size w V) => impl_smo am nm cm zs q bx cy am2 nm2 cm2 zs2 q2 bx2 cy2 V _ rfl hA.lm hB.lm (by omega) (hA.hm.below h) (hB.hm.below h))
  have HP := Lib.hid (fun V (h : Below w.heap.size w V) => impl_rsame an an2 nn nn2 cn cn2 ps ps2 V hA.ln hB.ln (by omega) (hA.hn.below h) (hB.hn.below h))
  have HQ := Lib.hid (fun V (h : Below w.heap.size w V) => impl_rsame al al2 nl nl2 cl cl2 qs qs2 V hA.ll hB.ll (by omega) (hA.hl.below h) (hB.hl.below h))
  have HN := Lib.hid (show (smB zs q bx cy zs2 q2 bx2 cy2 && (lo == lo2) && (hi == hi2) && sameB ps ps2 && sameB qs qs2) = b from hb)
  have hfd : ∀ W : World, (Instr.field 81 (.agg #[.slice am nm cm, .int .i64 q, .int .i64 bx, .int .i64 cy, .slice am nm cm, .int .i64 q, .int .i64 bx, .int .i64 cy, .int .i64 lo, .int .i64 hi, .slice an nn cn, .slice al nl cl]) 0).run Tryz.prog W = .ok (.agg #[.slice am nm cm, .int .i64 q, .int .i64 bx, .int .i64 cy]) W := fun _ => by kernel_rfl
  have hfd2 : ∀ W : World, (Instr.field 81 (.agg #[.slice am2 nm2 cm2, .int .i64 q2, .int .i64 bx2, .int .i64 cy2, .slice am2 nm2 cm2, .int .i64 q2, .int .i64 bx2, .int .i64 cy2, .int .i64 lo2, .int .i64 hi2, .slice an2 nn2 cn2, .slice al2 nl2 cl2]) 0).run Tryz.prog W = .ok (.agg #[.slice am2 nm2 cm2, .int .i64 q2, .int .i64 bx2, .int .i64 cy2]) W := fun _ => by kernel_rfl
  clear hA hB hb
  generalize smB zs q bx cy zs2 q2 bx2 cy2 = r1 at *
  generalize sameB ps ps2 = r4 at *
  generalize sameB qs qs2 = r5 at *
  obtain ⟨r2, h2⟩ : ∃ r, (lo == lo2) = r := ⟨_, rfl⟩
  obtain ⟨r3, h3⟩ : ∃ r, (hi == hi2) = r := ⟨_, rfl⟩
  rw [h2, h3] at HN
  go_enter Tryz.func26, Tryz.ntmps26
  go_wp2_with fail
  (try set_option maxRecDepth 20000 in simp only [List.append])
  generalize (w.alloc (.cells #[.slice am nm cm, .int .i64 q, .int .i64 bx, .int .i64 cy, .int .i64 lo, .int .i64 hi, .slice an nn cn, .slice al nl cl] 28)).alloc (.cells #[.slice am2 nm2 cm2, .int .i64 q2, .int .i64 bx2, .int .i64 cy2, .int .i64 lo2, .int .i64 hi2, .slice an2 nn2 cn2, .slice al2 nl2 cl2] 28) = V at *
  refine wp_region_held_drew (S := (fun w' => w'.cell? ⟨w.heap.size, 0, none⟩ = some (.slice am nm cm) ∧ w'.cell? ⟨w.heap.size, 1, none⟩ = some (.int .i64 q) ∧ w'.cell? ⟨w.heap.size, 2, none⟩ = some (.int .i64 bx) ∧ w'.cell? ⟨w.heap.size, 3, none⟩ = some (.int .i64 cy) ∧ w'.cell? ⟨w.heap.size, 4, none⟩ = some (.int .i64 lo) ∧ w'.cell? ⟨w.heap.size, 5, none⟩ = some (.int .i64 hi) ∧ w'.cell? ⟨w.heap.size, 6, none⟩ = some (.slice an nn cn) ∧ w'.cell? ⟨w.heap.size, 7, none⟩ = some (.slice al nl cl) ∧ w'.cell? ⟨w.heap.size + 1, 0, none⟩ = some (.slice am2 nm2 cm2) ∧ w'.cell? ⟨w.heap.size + 1, 1, none⟩ = some (.int .i64 q2) ∧ w'.cell? ⟨w.heap.size + 1, 2, none⟩ = some (.int .i64 bx2) ∧ w'.cell? ⟨w.heap.size + 1, 3, none⟩ = some (.int .i64 cy2) ∧ w'.cell? ⟨w.heap.size + 1, 4, none⟩ = some (.int .i64 lo2) ∧ w'.cell? ⟨w.heap.size + 1, 5, none⟩ = some (.int .i64 hi2) ∧ w'.cell? ⟨w.heap.size + 1, 6, none⟩ = some (.slice an2 nn2 cn2) ∧ w'.cell? ⟨w.heap.size + 1, 7, none⟩ = some (.slice al2 nl2 cl2))) (by kernel_rfl) ?_ (fun hHeld => ?_)
  · (refine room16s K0 K1 ?_; repeat (first | exact Below.refl _ _ | refine below_drw ?_ | refine below_to ?_ (by assumption)))
  refine wpAnyH_take (i := 0) (oi := sop0) (v := ?_) rfl (by as_aux_lemma => kernel_rfl) (by as_aux_lemma => kernel_rfl) (by as_aux_lemma => kernel_rfl) (fun _ _ _ h => h) (Or.inl ⟨by rfl, ?_⟩) (by assumption) ?_
  rotate_left
  · unfold sop0; intro w hSw; (try dsimp only at hSw); go_simp; try (with_reducible rfl)
  try simp only [sop0, Act.put, List.setIfInBounds_toArray, List.set_cons_zero, List.set_cons_succ]
  refine wpAnyH_take (i := 3) (oi := sop3) (v := ?_) rfl (by as_aux_lemma => kernel_rfl) (by as_aux_lemma => kernel_rfl) (by as_aux_lemma => kernel_rfl) (fun _ _ _ h => h) (Or.inl ⟨by rfl, ?_⟩) (by assumption) ?_
  rotate_left
  · unfold sop3; intro w hSw; (try dsimp only at hSw); go_simp; try (with_reducible rfl)
  try simp only [sop3, Act.put, List.setIfInBounds_toArray, List.set_cons_zero, List.set_cons_succ]
  refine wpAnyH_ready (rs := [1]) (by as_aux_lemma => kernel_rfl) (by simp) ?_
  refine AllReadyH.cons (o := sop1) rfl (fun K hK => ?_) AllReadyH.nil
  unfold sop1
  go_simp
  (go_at_call 47; (with_reducible refine (HW.out _).mono ?_); rintro e v1 ⟨rfl, bl1⟩)
  try go_wp2_with fail
  refine hK.out _ _ ?_ (fun hHeld2 => ?_)
  · (refine room16s K0 K1 ?_; repeat (first | exact Below.refl _ _ | refine below_drw ?_ | refine below_to ?_ (by assumption)))
  clear hK K hHeld
  have hHeld := hHeld2
  clear hHeld2
  try simp only [sop1, Act.put, List.setIfInBounds_toArray, List.set_cons_zero, List.set_cons_succ]
  as_aux_lemma =>
   refine wpAnyH_take (i := 2) (oi := sop2) (v := ?_) rfl (by as_aux_lemma => kernel_rfl) (by as_aux_lemma => kernel_rfl) (by as_aux_lemma => kernel_rfl) (fun _ _ _ h => h) (Or.inl ⟨by rfl, ?_⟩) (by assumption) ?_
   rotate_left
   · unfold sop2; intro w hSw; (try dsimp only at hSw); go_simp; try (with_reducible rfl)
   try simp only [sop2, Act.put, List.setIfInBounds_toArray, List.set_cons_zero, List.set_cons_succ]
   refine wpAnyH_ready (rs := [4]) (by as_aux_lemma => kernel_rfl) (by simp) ?_
   refine AllReadyH.cons (o := sop4) rfl (fun K hK => ?_) AllReadyH.nil
   unfold sop4
   go_simp
   (go_at_call 47; (with_reducible refine (HW2.out _).mono ?_); rintro e v2 ⟨rfl, bl2⟩)
   try go_wp2_with fail
   refine hK.out _ _ ?_ (fun hHeld2 => ?_)
   · (refine room16s K0 K1 ?_; repeat (first | exact Below.refl _ _ | refine below_drw ?_ | refine below_to ?_ (by assumption)))
   clear hK K hHeld
   have hHeld := hHeld2
   clear hHeld2
   try simp only [sop4, Act.put, List.setIfInBounds_toArray, List.set_cons_zero, List.set_cons_succ]
   as_aux_lemma =>
    refine wpAnyH_take (i := 5) (oi := sop5) (v := ?_) rfl (by as_aux_lemma => kernel_rfl) (by as_aux_lemma => kernel_rfl) (by as_aux_lemma => kernel_rfl) (fun _ _ _ h => h) (Or.inl ⟨by rfl, ?_⟩) (by assumption) ?_
    rotate_left
    · unfold sop5; intro w hSw; (try dsimp only at hSw); go_simp; try (with_reducible rfl)
    try simp only [sop5, Act.put, List.setIfInBounds_toArray, List.set_cons_zero, List.set_cons_succ]
    refine wpAnyH_ready (rs := [6]) (by as_aux_lemma => kernel_rfl) (by simp) ?_
    refine AllReadyH.cons (o := sop6) rfl (fun K hK => ?_) AllReadyH.nil
    unfold sop6
    go_simp
    (go_at_call 69; (with_reducible refine (HM.out _ ?_).mono ?_); (focus (repeat (first | exact bV | refine below_drw ?_ | refine below_to ?_ (by assumption)))); rintro e v3 ⟨rfl, bl3⟩)
    try go_wp2_with fail
    refine hK.out _ _ ?_ (fun hHeld2 => ?_)
    · (refine room16s K0 K1 ?_; repeat (first | exact Below.refl _ _ | refine below_drw ?_ | refine below_to ?_ (by assumption)))
    clear hK K hHeld
    have hHeld := hHeld2
    clear hHeld2
    try simp only [sop6, Act.put, List.setIfInBounds_toArray, List.set_cons_zero, List.set_cons_succ]
    as_aux_lemma =>
     refine wpAnyH_take (i := 7) (oi := sop7) (v := ?_) rfl (by as_aux_lemma => kernel_rfl) (by as_aux_lemma => kernel_rfl) (by as_aux_lemma => kernel_rfl) (fun _ _ _ h => h) (Or.inl ⟨by rfl, ?_⟩) (by assumption) ?_
     rotate_left
     · unfold sop7; intro w hSw; (try dsimp only at hSw); go_simp; try (with_reducible rfl)
     try simp only [sop7, Act.put, List.setIfInBounds_toArray, List.set_cons_zero, List.set_cons_succ]
     cases r1 with
     | false =>
      as_aux_lemma =>
       refine wpAnyH_take (i := 8) (oi := sop8) (v := undef) rfl (by as_aux_lemma => kernel_rfl) (by as_aux_lemma => kernel_rfl) (by as_aux_lemma => kernel_rfl) (fun _ _ _ h => h) (Or.inr ⟨by rfl, rfl⟩) (by assumption) ?_
       try simp only [sop8, Act.put, List.setIfInBounds_toArray, List.set_cons_zero, List.set_cons_succ]
       refine wpAnyH_take (i := 9) (oi := sop9) (v := undef) rfl (by as_aux_lemma => kernel_rfl) (by as_aux_lemma => kernel_rfl) (by as_aux_lemma => kernel_rfl) (fun _ _ _ h => h) (Or.inr ⟨by rfl, rfl⟩) (by assumption) ?_
       try simp only [sop9, Act.put, List.setIfInBounds_toArray, List.set_cons_zero, List.set_cons_succ]
       refine wpAnyH_take (i := 10) (oi := sop10) (v := undef) rfl (by as_aux_lemma => kernel_rfl) (by as_aux_lemma => kernel_rfl) (by as_aux_lemma => kernel_rfl) (fun _ _ _ h => h) (Or.inr ⟨by rfl, rfl⟩) (by assumption) ?_
       try simp only [sop10, Act.put, List.setIfInBounds_toArray, List.set_cons_zero, List.set_cons_succ]
       refine wpAnyH_take (i := 11) (oi := sop11) (v := undef) rfl (by as_aux_lemma => kernel_rfl) (by as_aux_lemma => kernel_rfl) (by as_aux_lemma => kernel_rfl) (fun _ _ _ h => h) (Or.inr ⟨by rfl, rfl⟩) (by assumption) ?_
       try simp only [sop11, Act.put, List.setIfInBounds_toArray, List.set_cons_zero, List.set_cons_succ]
       refine wpAnyH_take (i := 12) (oi := sop12) (v := undef) rfl (by as_aux_lemma => kernel_rfl) (by as_aux_lemma => kernel_rfl) (by as_aux_lemma => kernel_rfl) (fun _ _ _ h => h) (Or.inr ⟨by rfl, rfl⟩) (by assumption) ?_
       try simp only [sop12, Act.put, List.setIfInBounds_toArray, List.set_cons_zero, List.set_cons_succ]
       refine wpAnyH_take (i := 13) (oi := sop13) (v := ?_) rfl (by as_aux_lemma => kernel_rfl) (by as_aux_lemma => kernel_rfl) (by as_aux_lemma => kernel_rfl) (fun _ _ _ h => h) (Or.inl ⟨by rfl, ?_⟩) (by assumption) ?_
       rotate_left
       · unfold sop13; intro w hSw; (try dsimp only at hSw); go_simp; try (with_reducible rfl)
       try simp only [sop13, Act.put, List.setIfInBounds_toArray, List.set_cons_zero, List.set_cons_succ]
       refine wpAnyH_take (i := 14) (oi := sop14) (v := ?_) rfl (by as_aux_lemma => kernel_rfl) (by as_aux_lemma => kernel_rfl) (by as_aux_lemma => kernel_rfl) (fun _ _ _ h => h) (Or.inl ⟨by rfl, ?_⟩) (by assumption) ?_
       rotate_left
       · unfold sop14; intro w hSw; (try dsimp only at hSw); go_simp; try (with_reducible rfl)
       try simp only [sop14, Act.put, List.setIfInBounds_toArray, List.set_cons_zero, List.set_cons_succ]
       refine wpAnyH_take (i := 15) (oi := sop15) (v := undef) rfl (by as_aux_lemma => kernel_rfl) (by as_aux_lemma => kernel_rfl) (by as_aux_lemma => kernel_rfl) (fun _ _ _ h => h) (Or.inr ⟨by rfl, rfl⟩) (by assumption) ?_
       try simp only [sop15, Act.put, List.setIfInBounds_toArray, List.set_cons_zero, List.set_cons_succ]
       refine wpAnyH_take (i := 16) (oi := sop16) (v := undef) rfl (by as_aux_lemma => kernel_rfl) (by as_aux_lemma => kernel_rfl) (by as_aux_lemma => kernel_rfl) (fun _ _ _ h => h) (Or.inr ⟨by rfl, rfl⟩) (by assumption) ?_
       try simp only [sop16, Act.put, List.setIfInBounds_toArray, List.set_cons_zero, List.set_cons_succ]
       refine wpAnyH_take (i := 17) (oi := sop17) (v := undef) rfl (by as_aux_lemma => kernel_rfl) (by as_aux_lemma => kernel_rfl) (by as_aux_lemma => kernel_rfl) (fun _ _ _ h => h) (Or.inr ⟨by rfl, rfl⟩) (by assumption) ?_
       try simp only [sop17, Act.put, List.setIfInBounds_toArray, List.set_cons_zero, List.set_cons_succ]
       refine wpAnyH_take (i := 18) (oi := sop18) (v := undef) rfl (by as_aux_lemma => kernel_rfl) (by as_aux_lemma => kernel_rfl) (by as_aux_lemma => kernel_rfl) (fun _ _ _ h => h) (Or.inr ⟨by rfl, rfl⟩) (by assumption) ?_
       try simp only [sop18, Act.put, List.setIfInBounds_toArray, List.set_cons_zero, List.set_cons_succ]
       refine wpAnyH_take (i := 19) (oi := sop19) (v := undef) rfl (by as_aux_lemma => kernel_rfl) (by as_aux_lemma => kernel_rfl) (by as_aux_lemma => kernel_rfl) (fun _ _ _ h => h) (Or.inr ⟨by rfl, rfl⟩) (by assumption) ?_
       try simp only [sop19, Act.put, List.setIfInBounds_toArray, List.set_cons_zero, List.set_cons_succ]
       refine wpAnyH_take (i := 20) (oi := sop20) (v := ?_) rfl (by as_aux_lemma => kernel_rfl) (by as_aux_lemma => kernel_rfl) (by as_aux_lemma => kernel_rfl) (fun _ _ _ h => h) (Or.inl ⟨by rfl, ?_⟩) (by assumption) ?_
       rotate_left
       · unfold sop20; intro w hSw; (try dsimp only at hSw); go_simp; try (with_reducible rfl)
       try simp only [sop20, Act.put, List.setIfInBounds_toArray, List.set_cons_zero, List.set_cons_succ]
       refine wpAnyH_take (i := 21) (oi := sop21) (v := ?_) rfl (by as_aux_lemma => kernel_rfl) (by as_aux_lemma => kernel_rfl) (by as_aux_lemma => kernel_rfl) (fun _ _ _ h => h) (Or.inl ⟨by rfl, ?_⟩) (by assumption) ?_
       rotate_left
       · unfold sop21; intro w hSw; (try dsimp only at hSw); go_simp; try (with_reducible rfl)
       try simp only [sop21, Act.put, List.setIfInBounds_toArray, List.set_cons_zero, List.set_cons_succ]
       refine wpAnyH_take (i := 22) (oi := sop22) (v := undef) rfl (by as_aux_lemma => kernel_rfl) (by as_aux_lemma => kernel_rfl) (by as_aux_lemma => kernel_rfl) (fun _ _ _ h => h) (Or.inr ⟨by rfl, rfl⟩) (by assumption) ?_
       try simp only [sop22, Act.put, List.setIfInBounds_toArray, List.set_cons_zero, List.set_cons_succ]
       refine wpAnyH_take (i := 23) (oi := sop23) (v := undef) rfl (by as_aux_lemma => kernel_rfl) (by as_aux_lemma => kernel_rfl) (by as_aux_lemma => kernel_rfl) (fun _ _ _ h => h) (Or.inr ⟨by rfl, rfl⟩) (by assumption) ?_
       try simp only [sop23, Act.put, List.setIfInBounds_toArray, List.set_cons_zero, List.set_cons_succ]
       refine wpAnyH_take (i := 24) (oi := sop24) (v := undef) rfl (by as_aux_lemma => kernel_rfl) (by as_aux_lemma => kernel_rfl) (by as_aux_lemma => kernel_rfl) (fun _ _ _ h => h) (Or.inr ⟨by rfl, rfl⟩) (by assumption) ?_
       try simp only [sop24, Act.put, List.setIfInBounds_toArray, List.set_cons_zero, List.set_cons_succ]
       refine wpAnyH_take (i := 25) (oi := sop25) (v := undef) rfl (by as_aux_lemma => kernel_rfl) (by as_aux_lemma => kernel_rfl) (by as_aux_lemma => kernel_rfl) (fun _ _ _ h => h) (Or.inr ⟨by rfl, rfl⟩) (by assumption) ?_
       try simp only [sop25, Act.put, List.setIfInBounds_toArray, List.set_cons_zero, List.set_cons_succ]
       refine wpAnyH_take (i := 26) (oi := sop26) (v := undef) rfl (by as_aux_lemma => kernel_rfl) (by as_aux_lemma => kernel_rfl) (by as_aux_lemma => kernel_rfl) (fun _ _ _ h => h) (Or.inr ⟨by rfl, rfl⟩) (by assumption) ?_
       try simp only [sop26, Act.put, List.setIfInBounds_toArray, List.set_cons_zero, List.set_cons_succ]
       refine wpAnyH_take (i := 27) (oi := sop27) (v := ?_) rfl (by as_aux_lemma => kernel_rfl) (by as_aux_lemma => kernel_rfl) (by as_aux_lemma => kernel_rfl) (fun _ _ _ h => h) (Or.inl ⟨by rfl, ?_⟩) (by assumption) ?_
       rotate_left
       · unfold sop27; intro w hSw; (try dsimp only at hSw); go_simp; try (with_reducible rfl)
       try simp only [sop27, Act.put, List.setIfInBounds_toArray, List.set_cons_zero, List.set_cons_succ]
       refine wpAnyH_take (i := 28) (oi := sop28) (v := ?_) rfl (by as_aux_lemma => kernel_rfl) (by as_aux_lemma => kernel_rfl) (by as_aux_lemma => kernel_rfl) (fun _ _ _ h => h) (Or.inl ⟨by rfl, ?_⟩) (by assumption) ?_
       rotate_left
       · unfold sop28; intro w hSw; (try dsimp only at hSw); go_simp; try (with_reducible rfl)
       try simp only [sop28, Act.put, List.setIfInBounds_toArray, List.set_cons_zero, List.set_cons_succ]
       refine wpAnyH_take (i := 29) (oi := sop29) (v := undef) rfl (by as_aux_lemma => kernel_rfl) (by as_aux_lemma => kernel_rfl) (by as_aux_lemma => kernel_rfl) (fun _ _ _ h => h) (Or.inr ⟨by rfl, rfl⟩) (by assumption) ?_
       try simp only [sop29, Act.put, List.setIfInBounds_toArray, List.set_cons_zero, List.set_cons_succ]
       refine wpAnyH_take (i := 30) (oi := sop30) (v := undef) rfl (by as_aux_lemma => kernel_rfl) (by as_aux_lemma => kernel_rfl) (by as_aux_lemma => kernel_rfl) (fun _ _ _ h => h) (Or.inr ⟨by rfl, rfl⟩) (by assumption) ?_
       try simp only [sop30, Act.put, List.setIfInBounds_toArray, List.set_cons_zero, List.set_cons_succ]
       refine wpAnyH_take (i := 31) (oi := sop31) (v := undef) rfl (by as_aux_lemma => kernel_rfl) (by as_aux_lemma => kernel_rfl) (by as_aux_lemma => kernel_rfl) (fun _ _ _ h => h) (Or.inr ⟨by rfl, rfl⟩) (by assumption) ?_
       try simp only [sop31, Act.put, List.setIfInBounds_toArray, List.set_cons_zero, List.set_cons_succ]
       refine wpAnyH_take (i := 32) (oi := sop32) (v := undef) rfl (by as_aux_lemma => kernel_rfl) (by as_aux_lemma => kernel_rfl) (by as_aux_lemma => kernel_rfl) (fun _ _ _ h => h) (Or.inr ⟨by rfl, rfl⟩) (by assumption) ?_
       try simp only [sop32, Act.put, List.setIfInBounds_toArray, List.set_cons_zero, List.set_cons_succ]
       refine wpAnyH_take (i := 33) (oi := sop33) (v := undef) rfl (by as_aux_lemma => kernel_rfl) (by as_aux_lemma => kernel_rfl) (by as_aux_lemma => kernel_rfl) (fun _ _ _ h => h) (Or.inr ⟨by rfl, rfl⟩) (by assumption) ?_
       try simp only [sop33, Act.put, List.setIfInBounds_toArray, List.set_cons_zero, List.set_cons_succ]
       refine wpAnyH_take (i := 34) (oi := sop34) (v := ?_) rfl (by as_aux_lemma => kernel_rfl) (by as_aux_lemma => kernel_rfl) (by as_aux_lemma => kernel_rfl) (fun _ _ _ h => h) (Or.inl ⟨by rfl, ?_⟩) (by assumption) ?_
       rotate_left
       · unfold sop34; intro w hSw; (try dsimp only at hSw); go_simp; try (with_reducible rfl)
       try simp only [sop34, Act.put, List.setIfInBounds_toArray, List.set_cons_zero, List.set_cons_succ]
       refine wpAnyH_take (i := 35) (oi := sop35) (v := ?_) rfl (by as_aux_lemma => kernel_rfl) (by as_aux_lemma => kernel_rfl) (by as_aux_lemma => kernel_rfl) (fun _ _ _ h => h) (Or.inl ⟨by rfl, ?_⟩) (by assumption) ?_
       rotate_left
       · unfold sop35; intro w hSw; (try dsimp only at hSw); go_simp; try (with_reducible rfl)
       try simp only [sop35, Act.put, List.setIfInBounds_toArray, List.set_cons_zero, List.set_cons_succ]
       refine wpAnyH_done (by kernel_rfl) ?_ _
       go_wp2_with fail
       go_ret
       refine ⟨ret_bool (by rw [← HN.out]; first | rfl | (simp; done)), ?_⟩
       repeat (first | exact bV | exact Below.refl _ _ | refine below_drw ?_ | refine below_to ?_ (by assumption))
     | true =>
      as_aux_lemma =>
       refine wpAnyH_take (i := 8) (oi := sop8) (v := ?_) rfl (by as_aux_lemma => kernel_rfl) (by as_aux_lemma => kernel_rfl) (by as_aux_lemma => kernel_rfl) (fun _ _ _ h => h) (Or.inl ⟨by rfl, ?_⟩) (by assumption) ?_
       rotate_left
       · unfold sop8; intro w hSw; (try dsimp only at hSw); go_simp; try (with_reducible rfl)
       try simp only [sop8, Act.put, List.setIfInBounds_toArray, List.set_cons_zero, List.set_cons_succ]
       refine wpAnyH_take (i := 9) (oi := sop9) (v := ?_) rfl (by as_aux_lemma => kernel_rfl) (by as_aux_lemma => kernel_rfl) (by as_aux_lemma => kernel_rfl) (fun _ _ _ h => h) (Or.inl ⟨by rfl, ?_⟩) (by assumption) ?_
       rotate_left
       · unfold sop9; intro w hSw; (try dsimp only at hSw); go_simp; try (with_reducible rfl)
       try simp only [sop9, Act.put, List.setIfInBounds_toArray, List.set_cons_zero, List.set_cons_succ]
       refine wpAnyH_take (i := 10) (oi := sop10) (v := ?_) rfl (by as_aux_lemma => kernel_rfl) (by as_aux_lemma => kernel_rfl) (by as_aux_lemma => kernel_rfl) (fun _ _ _ h => h) (Or.inl ⟨by rfl, ?_⟩) (by assumption) ?_
       rotate_left
       · unfold sop10; intro w hSw; (try dsimp only at hSw); go_simp; try (with_reducible rfl)
       try simp only [sop10, Act.put, List.setIfInBounds_toArray, List.set_cons_zero, List.set_cons_succ]
       refine wpAnyH_take (i := 11) (oi := sop11) (v := ?_) rfl (by as_aux_lemma => kernel_rfl) (by as_aux_lemma => kernel_rfl) (by as_aux_lemma => kernel_rfl) (fun _ _ _ h => h) (Or.inl ⟨by rfl, ?_⟩) (by assumption) ?_
       rotate_left
       · unfold sop11; intro w hSw; (try dsimp only at hSw); go_simp; try (with_reducible rfl)
       try simp only [sop11, Act.put, List.setIfInBounds_toArray, List.set_cons_zero, List.set_cons_succ]
       refine wpAnyH_take (i := 12) (oi := sop12) (v := ?_) rfl (by as_aux_lemma => kernel_rfl) (by as_aux_lemma => kernel_rfl) (by as_aux_lemma => kernel_rfl) (fun _ _ _ h => h) (Or.inl ⟨by rfl, ?_⟩) (by assumption) ?_
       rotate_left
       · unfold sop12; intro w hSw; (try dsimp only at hSw); go_simp; try (with_reducible rfl)
       try simp only [sop12, Act.put, List.setIfInBounds_toArray, List.set_cons_zero, List.set_cons_succ]
       refine wpAnyH_take (i := 13) (oi := sop13) (v := ?_) rfl (by as_aux_lemma => kernel_rfl) (by as_aux_lemma => kernel_rfl) (by as_aux_lemma => kernel_rfl) (fun _ _ _ h => h) (Or.inl ⟨by rfl, ?_⟩) (by assumption) ?_
       rotate_left
       · unfold sop13; intro w hSw; (try dsimp only at hSw); go_simp; try (with_reducible rfl)
       try simp only [sop13, Act.put, List.setIfInBounds_toArray, List.set_cons_zero, List.set_cons_succ]
       refine wpAnyH_take (i := 14) (oi := sop14) (v := ?_) rfl (by as_aux_lemma => kernel_rfl) (by as_aux_lemma => kernel_rfl) (by as_aux_lemma => kernel_rfl) (fun _ _ _ h => h) (Or.inl ⟨by rfl, ?_⟩) (by assumption) ?_
       rotate_left
       · unfold sop14; intro w hSw; (try dsimp only at hSw); go_simp; try (with_reducible rfl)
       try simp only [sop14, Act.put, List.setIfInBounds_toArray, List.set_cons_zero, List.set_cons_succ]
       cases r2 with
       | false =>
        as_aux_lemma =>
         refine wpAnyH_take (i := 15) (oi := sop15) (v := undef) rfl (by as_aux_lemma => kernel_rfl) (by as_aux_lemma => kernel_rfl) (by as_aux_lemma => kernel_rfl) (fun _ _ _ h => h) (Or.inr ⟨by rfl, rfl⟩) (by assumption) ?_
         try simp only [sop15, Act.put, List.setIfInBounds_toArray, List.set_cons_zero, List.set_cons_succ]
         refine wpAnyH_take (i := 16) (oi := sop16) (v := undef) rfl (by as_aux_lemma => kernel_rfl) (by as_aux_lemma => kernel_rfl) (by as_aux_lemma => kernel_rfl) (fun _ _ _ h => h) (Or.inr ⟨by rfl, rfl⟩) (by assumption) ?_
         try simp only [sop16, Act.put, List.setIfInBounds_toArray, List.set_cons_zero, List.set_cons_succ]
         refine wpAnyH_take (i := 17) (oi := sop17) (v := undef) rfl (by as_aux_lemma => kernel_rfl) (by as_aux_lemma => kernel_rfl) (by as_aux_lemma => kernel_rfl) (fun _ _ _ h => h) (Or.inr ⟨by rfl, rfl⟩) (by assumption) ?_
         try simp only [sop17, Act.put, List.setIfInBounds_toArray, List.set_cons_zero, List.set_cons_succ]
         refine wpAnyH_take (i := 18) (oi := sop18) (v := undef) rfl (by as_aux_lemma => kernel_rfl) (by as_aux_lemma => kernel_rfl) (by as_aux_lemma => kernel_rfl) (fun _ _ _ h => h) (Or.inr ⟨by rfl, rfl⟩) (by assumption) ?_
         try simp only [sop18, Act.put, List.setIfInBounds_toArray, List.set_cons_zero, List.set_cons_succ]
         refine wpAnyH_take (i := 19) (oi := sop19) (v := undef) rfl (by as_aux_lemma => kernel_rfl) (by as_aux_lemma => kernel_rfl) (by as_aux_lemma => kernel_rfl) (fun _ _ _ h => h) (Or.inr ⟨by rfl, rfl⟩) (by assumption) ?_
         try simp only [sop19, Act.put, List.setIfInBounds_toArray, List.set_cons_zero, List.set_cons_succ]
         refine wpAnyH_take (i := 20) (oi := sop20) (v := ?_) rfl (by as_aux_lemma => kernel_rfl) (by as_aux_lemma => kernel_rfl) (by as_aux_lemma => kernel_rfl) (fun _ _ _ h => h) (Or.inl ⟨by rfl, ?_⟩) (by assumption) ?_
         rotate_left
         · unfold sop20; intro w hSw; (try dsimp only at hSw); go_simp; try (with_reducible rfl)
         try simp only [sop20, Act.put, List.setIfInBounds_toArray, List.set_cons_zero, List.set_cons_succ]
         refine wpAnyH_take (i := 21) (oi := sop21) (v := ?_) rfl (by as_aux_lemma => kernel_rfl) (by as_aux_lemma => kernel_rfl) (by as_aux_lemma => kernel_rfl) (fun _ _ _ h => h) (Or.inl ⟨by rfl, ?_⟩) (by assumption) ?_
         rotate_left
         · unfold sop21; intro w hSw; (try dsimp only at hSw); go_simp; try (with_reducible rfl)
         try simp only [sop21, Act.put, List.setIfInBounds_toArray, List.set_cons_zero, List.set_cons_succ]
         refine wpAnyH_take (i := 22) (oi := sop22) (v := undef) rfl (by as_aux_lemma => kernel_rfl) (by as_aux_lemma => kernel_rfl) (by as_aux_lemma => kernel_rfl) (fun _ _ _ h => h) (Or.inr ⟨by rfl, rfl⟩) (by assumption) ?_
         try simp only [sop22, Act.put, List.setIfInBounds_toArray, List.set_cons_zero, List.set_cons_succ]
         refine wpAnyH_take (i := 23) (oi := sop23) (v := undef) rfl (by as_aux_lemma => kernel_rfl) (by as_aux_lemma => kernel_rfl) (by as_aux_lemma => kernel_rfl) (fun _ _ _ h => h) (Or.inr ⟨by rfl, rfl⟩) (by assumption) ?_
         try simp only [sop23, Act.put, List.setIfInBounds_toArray, List.set_cons_zero, List.set_cons_succ]
         refine wpAnyH_take (i := 24) (oi := sop24) (v := undef) rfl (by as_aux_lemma => kernel_rfl) (by as_aux_lemma => kernel_rfl) (by as_aux_lemma => kernel_rfl) (fun _ _ _ h => h) (Or.inr ⟨by rfl, rfl⟩) (by assumption) ?_
         try simp only [sop24, Act.put, List.setIfInBounds_toArray, List.set_cons_zero, List.set_cons_succ]
         refine wpAnyH_take (i := 25) (oi := sop25) (v := undef) rfl (by as_aux_lemma => kernel_rfl) (by as_aux_lemma => kernel_rfl) (by as_aux_lemma => kernel_rfl) (fun _ _ _ h => h) (Or.inr ⟨by rfl, rfl⟩) (by assumption) ?_
         try simp only [sop25, Act.put, List.setIfInBounds_toArray, List.set_cons_zero, List.set_cons_succ]
         refine wpAnyH_take (i := 26) (oi := sop26) (v := undef) rfl (by as_aux_lemma => kernel_rfl) (by as_aux_lemma => kernel_rfl) (by as_aux_lemma => kernel_rfl) (fun _ _ _ h => h) (Or.inr ⟨by rfl, rfl⟩) (by assumption) ?_
         try simp only [sop26, Act.put, List.setIfInBounds_toArray, List.set_cons_zero, List.set_cons_succ]
         refine wpAnyH_take (i := 27) (oi := sop27) (v := ?_) rfl (by as_aux_lemma => kernel_rfl) (by as_aux_lemma => kernel_rfl) (by as_aux_lemma => kernel_rfl) (fun _ _ _ h => h) (Or.inl ⟨by rfl, ?_⟩) (by assumption) ?_
         rotate_left
         · unfold sop27; intro w hSw; (try dsimp only at hSw); go_simp; try (with_reducible rfl)
         try simp only [sop27, Act.put, List.setIfInBounds_toArray, List.set_cons_zero, List.set_cons_succ]
         refine wpAnyH_take (i := 28) (oi := sop28) (v := ?_) rfl (by as_aux_lemma => kernel_rfl) (by as_aux_lemma => kernel_rfl) (by as_aux_lemma => kernel_rfl) (fun _ _ _ h => h) (Or.inl ⟨by rfl, ?_⟩) (by assumption) ?_
         rotate_left
         · unfold sop28; intro w hSw; (try dsimp only at hSw); go_simp; try (with_reducible rfl)
         try simp only [sop28, Act.put, List.setIfInBounds_toArray, List.set_cons_zero, List.set_cons_succ]
         refine wpAnyH_take (i := 29) (oi := sop29) (v := undef) rfl (by as_aux_lemma => kernel_rfl) (by as_aux_lemma => kernel_rfl) (by as_aux_lemma => kernel_rfl) (fun _ _ _ h => h) (Or.inr ⟨by rfl, rfl⟩) (by assumption) ?_
         try simp only [sop29, Act.put, List.setIfInBounds_toArray, List.set_cons_zero, List.set_cons_succ]
         refine wpAnyH_take (i := 30) (oi := sop30) (v := undef) rfl (by as_aux_lemma => kernel_rfl) (by as_aux_lemma => kernel_rfl) (by as_aux_lemma => kernel_rfl) (fun _ _ _ h => h) (Or.inr ⟨by rfl, rfl⟩) (by assumption) ?_
         try simp only [sop30, Act.put, List.setIfInBounds_toArray, List.set_cons_zero, List.set_cons_succ]
         refine wpAnyH_take (i := 31) (oi := sop31) (v := undef) rfl (by as_aux_lemma => kernel_rfl) (by as_aux_lemma => kernel_rfl) (by as_aux_lemma => kernel_rfl) (fun _ _ _ h => h) (Or.inr ⟨by rfl, rfl⟩) (by assumption) ?_
         try simp only [sop31, Act.put, List.setIfInBounds_toArray, List.set_cons_zero, List.set_cons_succ]
         refine wpAnyH_take (i := 32) (oi := sop32) (v := undef) rfl (by as_aux_lemma => kernel_rfl) (by as_aux_lemma => kernel_rfl) (by as_aux_lemma => kernel_rfl) (fun _ _ _ h => h) (Or.inr ⟨by rfl, rfl⟩) (by assumption) ?_
         try simp only [sop32, Act.put, List.setIfInBounds_toArray, List.set_cons_zero, List.set_cons_succ]
         refine wpAnyH_take (i := 33) (oi := sop33) (v := undef) rfl (by as_aux_lemma => kernel_rfl) (by as_aux_lemma => kernel_rfl) (by as_aux_lemma => kernel_rfl) (fun _ _ _ h => h) (Or.inr ⟨by rfl, rfl⟩) (by assumption) ?_
         try simp only [sop33, Act.put, List.setIfInBounds_toArray, List.set_cons_zero, List.set_cons_succ]
         refine wpAnyH_take (i := 34) (oi := sop34) (v := ?_) rfl (by as_aux_lemma => kernel_rfl) (by as_aux_lemma => kernel_rfl) (by as_aux_lemma => kernel_rfl) (fun _ _ _ h => h) (Or.inl ⟨by rfl, ?_⟩) (by assumption) ?_
         rotate_left
         · unfold sop34; intro w hSw; (try dsimp only at hSw); go_simp; try (with_reducible rfl)
         try simp only [sop34, Act.put, List.setIfInBounds_toArray, List.set_cons_zero, List.set_cons_succ]
         refine wpAnyH_take (i := 35) (oi := sop35) (v := ?_) rfl (by as_aux_lemma => kernel_rfl) (by as_aux_lemma => kernel_rfl) (by as_aux_lemma => kernel_rfl) (fun _ _ _ h => h) (Or.inl ⟨by rfl, ?_⟩) (by assumption) ?_
         rotate_left
         · unfold sop35; intro w hSw; (try dsimp only at hSw); go_simp; try (with_reducible rfl)
         try simp only [sop35, Act.put, List.setIfInBounds_toArray, List.set_cons_zero, List.set_cons_succ]
         refine wpAnyH_done (by kernel_rfl) ?_ _
         go_wp2_with fail
         go_ret
         refine ⟨ret_bool (by rw [← HN.out]; first | rfl | (simp; done)), ?_⟩
         repeat (first | exact bV | exact Below.refl _ _ | refine below_drw ?_ | refine below_to ?_ (by assumption))
       | true =>
        as_aux_lemma =>
         refine wpAnyH_take (i := 15) (oi := sop15) (v := ?_) rfl (by as_aux_lemma => kernel_rfl) (by as_aux_lemma => kernel_rfl) (by as_aux_lemma => kernel_rfl) (fun _ _ _ h => h) (Or.inl ⟨by rfl, ?_⟩) (by assumption) ?_
         rotate_left
         · unfold sop15; intro w hSw; (try dsimp only at hSw); go_simp; try (with_reducible rfl)
         try simp only [sop15, Act.put, List.setIfInBounds_toArray, List.set_cons_zero, List.set_cons_succ]
         refine wpAnyH_take (i := 16) (oi := sop16) (v := ?_) rfl (by as_aux_lemma => kernel_rfl) (by as_aux_lemma => kernel_rfl) (by as_aux_lemma => kernel_rfl) (fun _ _ _ h => h) (Or.inl ⟨by rfl, ?_⟩) (by assumption) ?_
         rotate_left
         · unfold sop16; intro w hSw; (try dsimp only at hSw); go_simp; try (with_reducible rfl)
         try simp only [sop16, Act.put, List.setIfInBounds_toArray, List.set_cons_zero, List.set_cons_succ]
         refine wpAnyH_take (i := 17) (oi := sop17) (v := ?_) rfl (by as_aux_lemma => kernel_rfl) (by as_aux_lemma => kernel_rfl) (by as_aux_lemma => kernel_rfl) (fun _ _ _ h => h) (Or.inl ⟨by rfl, ?_⟩) (by assumption) ?_
         rotate_left
         · unfold sop17; intro w hSw; (try dsimp only at hSw); go_simp; try (with_reducible rfl)
         try simp only [sop17, Act.put, List.setIfInBounds_toArray, List.set_cons_zero, List.set_cons_succ]
         refine wpAnyH_take (i := 18) (oi := sop18) (v := ?_) rfl (by as_aux_lemma => kernel_rfl) (by as_aux_lemma => kernel_rfl) (by as_aux_lemma => kernel_rfl) (fun _ _ _ h => h) (Or.inl ⟨by rfl, ?_⟩) (by assumption) ?_
         rotate_left
         · unfold sop18; intro w hSw; (try dsimp only at hSw); go_simp; try (with_reducible rfl)
         try simp only [sop18, Act.put, List.setIfInBounds_toArray, List.set_cons_zero, List.set_cons_succ]
         refine wpAnyH_take (i := 19) (oi := sop19) (v := ?_) rfl (by as_aux_lemma => kernel_rfl) (by as_aux_lemma => kernel_rfl) (by as_aux_lemma => kernel_rfl) (fun _ _ _ h => h) (Or.inl ⟨by rfl, ?_⟩) (by assumption) ?_
         rotate_left
         · unfold sop19; intro w hSw; (try dsimp only at hSw); go_simp; try (with_reducible rfl)
         try simp only [sop19, Act.put, List.setIfInBounds_toArray, List.set_cons_zero, List.set_cons_succ]
         refine wpAnyH_take (i := 20) (oi := sop20) (v := ?_) rfl (by as_aux_lemma => kernel_rfl) (by as_aux_lemma => kernel_rfl) (by as_aux_lemma => kernel_rfl) (fun _ _ _ h => h) (Or.inl ⟨by rfl, ?_⟩) (by assumption) ?_
         rotate_left
         · unfold sop20; intro w hSw; (try dsimp only at hSw); go_simp; try (with_reducible rfl)
         try simp only [sop20, Act.put, List.setIfInBounds_toArray, List.set_cons_zero, List.set_cons_succ]
         refine wpAnyH_take (i := 21) (oi := sop21) (v := ?_) rfl (by as_aux_lemma => kernel_rfl) (by as_aux_lemma => kernel_rfl) (by as_aux_lemma => kernel_rfl) (fun _ _ _ h => h) (Or.inl ⟨by rfl, ?_⟩) (by assumption) ?_
         rotate_left
         · unfold sop21; intro w hSw; (try dsimp only at hSw); go_simp; try (with_reducible rfl)
         try simp only [sop21, Act.put, List.setIfInBounds_toArray, List.set_cons_zero, List.set_cons_succ]
         cases r3 with
         | false =>
          as_aux_lemma =>
           refine wpAnyH_take (i := 22) (oi := sop22) (v := undef) rfl (by as_aux_lemma => kernel_rfl) (by as_aux_lemma => kernel_rfl) (by as_aux_lemma => kernel_rfl) (fun _ _ _ h => h) (Or.inr ⟨by rfl, rfl⟩) (by assumption) ?_
           try simp only [sop22, Act.put, List.setIfInBounds_toArray, List.set_cons_zero, List.set_cons_succ]
           refine wpAnyH_take (i := 23) (oi := sop23) (v := undef) rfl (by as_aux_lemma => kernel_rfl) (by as_aux_lemma => kernel_rfl) (by as_aux_lemma => kernel_rfl) (fun _ _ _ h => h) (Or.inr ⟨by rfl, rfl⟩) (by assumption) ?_
           try simp only [sop23, Act.put, List.setIfInBounds_toArray, List.set_cons_zero, List.set_cons_succ]
           refine wpAnyH_take (i := 24) (oi := sop24) (v := undef) rfl (by as_aux_lemma => kernel_rfl) (by as_aux_lemma => kernel_rfl) (by as_aux_lemma => kernel_rfl) (fun _ _ _ h => h) (Or.inr ⟨by rfl, rfl⟩) (by assumption) ?_
           try simp only [sop24, Act.put, List.setIfInBounds_toArray, List.set_cons_zero, List.set_cons_succ]
           refine wpAnyH_take (i := 25) (oi := sop25) (v := undef) rfl (by as_aux_lemma => kernel_rfl) (by as_aux_lemma => kernel_rfl) (by as_aux_lemma => kernel_rfl) (fun _ _ _ h => h) (Or.inr ⟨by rfl, rfl⟩) (by assumption) ?_
           try simp only [sop25, Act.put, List.setIfInBounds_toArray, List.set_cons_zero, List.set_cons_succ]
           refine wpAnyH_take (i := 26) (oi := sop26) (v := undef) rfl (by as_aux_lemma => kernel_rfl) (by as_aux_lemma => kernel_rfl) (by as_aux_lemma => kernel_rfl) (fun _ _ _ h => h) (Or.inr ⟨by rfl, rfl⟩) (by assumption) ?_
           try simp only [sop26, Act.put, List.setIfInBounds_toArray, List.set_cons_zero, List.set_cons_succ]
           refine wpAnyH_take (i := 27) (oi := sop27) (v := ?_) rfl (by as_aux_lemma => kernel_rfl) (by as_aux_lemma => kernel_rfl) (by as_aux_lemma => kernel_rfl) (fun _ _ _ h => h) (Or.inl ⟨by rfl, ?_⟩) (by assumption) ?_
           rotate_left
           · unfold sop27; intro w hSw; (try dsimp only at hSw); go_simp; try (with_reducible rfl)
           try simp only [sop27, Act.put, List.setIfInBounds_toArray, List.set_cons_zero, List.set_cons_succ]
           refine wpAnyH_take (i := 28) (oi := sop28) (v := ?_) rfl (by as_aux_lemma => kernel_rfl) (by as_aux_lemma => kernel_rfl) (by as_aux_lemma => kernel_rfl) (fun _ _ _ h => h) (Or.inl ⟨by rfl, ?_⟩) (by assumption) ?_
           rotate_left
           · unfold sop28; intro w hSw; (try dsimp only at hSw); go_simp; try (with_reducible rfl)
           try simp only [sop28, Act.put, List.setIfInBounds_toArray, List.set_cons_zero, List.set_cons_succ]
           refine wpAnyH_take (i := 29) (oi := sop29) (v := undef) rfl (by as_aux_lemma => kernel_rfl) (by as_aux_lemma => kernel_rfl) (by as_aux_lemma => kernel_rfl) (fun _ _ _ h => h) (Or.inr ⟨by rfl, rfl⟩) (by assumption) ?_
           try simp only [sop29, Act.put, List.setIfInBounds_toArray, List.set_cons_zero, List.set_cons_succ]
           refine wpAnyH_take (i := 30) (oi := sop30) (v := undef) rfl (by as_aux_lemma => kernel_rfl) (by as_aux_lemma => kernel_rfl) (by as_aux_lemma => kernel_rfl) (fun _ _ _ h => h) (Or.inr ⟨by rfl, rfl⟩) (by assumption) ?_
           try simp only [sop30, Act.put, List.setIfInBounds_toArray, List.set_cons_zero, List.set_cons_succ]
           refine wpAnyH_take (i := 31) (oi := sop31) (v := undef) rfl (by as_aux_lemma => kernel_rfl) (by as_aux_lemma => kernel_rfl) (by as_aux_lemma => kernel_rfl) (fun _ _ _ h => h) (Or.inr ⟨by rfl, rfl⟩) (by assumption) ?_
           try simp only [sop31, Act.put, List.setIfInBounds_toArray, List.set_cons_zero, List.set_cons_succ]
           refine wpAnyH_take (i := 32) (oi := sop32) (v := undef) rfl (by as_aux_lemma => kernel_rfl) (by as_aux_lemma => kernel_rfl) (by as_aux_lemma => kernel_rfl) (fun _ _ _ h => h) (Or.inr ⟨by rfl, rfl⟩) (by assumption) ?_
           try simp only [sop32, Act.put, List.setIfInBounds_toArray, List.set_cons_zero, List.set_cons_succ]
           refine wpAnyH_take (i := 33) (oi := sop33) (v := undef) rfl (by as_aux_lemma => kernel_rfl) (by as_aux_lemma => kernel_rfl) (by as_aux_lemma => kernel_rfl) (fun _ _ _ h => h) (Or.inr ⟨by rfl, rfl⟩) (by assumption) ?_
           try simp only [sop33, Act.put, List.setIfInBounds_toArray, List.set_cons_zero, List.set_cons_succ]
           refine wpAnyH_take (i := 34) (oi := sop34) (v := ?_) rfl (by as_aux_lemma => kernel_rfl) (by as_aux_lemma => kernel_rfl) (by as_aux_lemma => kernel_rfl) (fun _ _ _ h => h) (Or.inl ⟨by rfl, ?_⟩) (by assumption) ?_
           rotate_left
           · unfold sop34; intro w hSw; (try dsimp only at hSw); go_simp; try (with_reducible rfl)
           try simp only [sop34, Act.put, List.setIfInBounds_toArray, List.set_cons_zero, List.set_cons_succ]
           refine wpAnyH_take (i := 35) (oi := sop35) (v := ?_) rfl (by as_aux_lemma => kernel_rfl) (by as_aux_lemma => kernel_rfl) (by as_aux_lemma => kernel_rfl) (fun _ _ _ h => h) (Or.inl ⟨by rfl, ?_⟩) (by assumption) ?_
           rotate_left
           · unfold sop35; intro w hSw; (try dsimp only at hSw); go_simp; try (with_reducible rfl)
           try simp only [sop35, Act.put, List.setIfInBounds_toArray, List.set_cons_zero, List.set_cons_succ]
           refine wpAnyH_done (by kernel_rfl) ?_ _
           go_wp2_with fail
           go_ret
           refine ⟨ret_bool (by rw [← HN.out]; first | rfl | (simp; done)), ?_⟩
           repeat (first | exact bV | exact Below.refl _ _ | refine below_drw ?_ | refine below_to ?_ (by assumption))
         | true =>
          as_aux_lemma =>
           refine wpAnyH_take (i := 22) (oi := sop22) (v := ?_) rfl (by as_aux_lemma => kernel_rfl) (by as_aux_lemma => kernel_rfl) (by as_aux_lemma => kernel_rfl) (fun _ _ _ h => h) (Or.inl ⟨by rfl, ?_⟩) (by assumption) ?_
           rotate_left
           · unfold sop22; intro w hSw; (try dsimp only at hSw); go_simp; try (with_reducible rfl)
           try simp only [sop22, Act.put, List.setIfInBounds_toArray, List.set_cons_zero, List.set_cons_succ]
           refine wpAnyH_take (i := 23) (oi := sop23) (v := ?_) rfl (by as_aux_lemma => kernel_rfl) (by as_aux_lemma => kernel_rfl) (by as_aux_lemma => kernel_rfl) (fun _ _ _ h => h) (Or.inl ⟨by rfl, ?_⟩) (by assumption) ?_
           rotate_left
           · unfold sop23; intro w hSw; (try dsimp only at hSw); go_simp; try (with_reducible rfl)
           try simp only [sop23, Act.put, List.setIfInBounds_toArray, List.set_cons_zero, List.set_cons_succ]
           refine wpAnyH_take (i := 24) (oi := sop24) (v := ?_) rfl (by as_aux_lemma => kernel_rfl) (by as_aux_lemma => kernel_rfl) (by as_aux_lemma => kernel_rfl) (fun _ _ _ h => h) (Or.inl ⟨by rfl, ?_⟩) (by assumption) ?_
           rotate_left
           · unfold sop24; intro w hSw; (try dsimp only at hSw); go_simp; try (with_reducible rfl)
           try simp only [sop24, Act.put, List.setIfInBounds_toArray, List.set_cons_zero, List.set_cons_succ]
           refine wpAnyH_take (i := 25) (oi := sop25) (v := ?_) rfl (by as_aux_lemma => kernel_rfl) (by as_aux_lemma => kernel_rfl) (by as_aux_lemma => kernel_rfl) (fun _ _ _ h => h) (Or.inl ⟨by rfl, ?_⟩) (by assumption) ?_
           rotate_left
           · unfold sop25; intro w hSw; (try dsimp only at hSw); go_simp; try (with_reducible rfl)
           try simp only [sop25, Act.put, List.setIfInBounds_toArray, List.set_cons_zero, List.set_cons_succ]
           refine wpAnyH_ready (rs := [26]) (by as_aux_lemma => kernel_rfl) (by simp) ?_
           refine AllReadyH.cons (o := sop26) rfl (fun K hK => ?_) AllReadyH.nil
           unfold sop26
           go_simp
           (go_at_call 21; (with_reducible refine (HP.out _ ?_).mono ?_); (focus (repeat (first | exact bV | refine below_drw ?_ | refine below_to ?_ (by assumption)))); rintro e v4 ⟨rfl, bl4⟩)
           try go_wp2_with fail
           refine hK.out _ _ ?_ (fun hHeld2 => ?_)
           · (refine room16s K0 K1 ?_; repeat (first | exact Below.refl _ _ | refine below_drw ?_ | refine below_to ?_ (by assumption)))
           clear hK K hHeld
           have hHeld := hHeld2
           clear hHeld2
           try simp only [sop26, Act.put, List.setIfInBounds_toArray, List.set_cons_zero, List.set_cons_succ]
           as_aux_lemma =>
            refine wpAnyH_take (i := 27) (oi := sop27) (v := ?_) rfl (by as_aux_lemma => kernel_rfl) (by as_aux_lemma => kernel_rfl) (by as_aux_lemma => kernel_rfl) (fun _ _ _ h => h) (Or.inl ⟨by rfl, ?_⟩) (by assumption) ?_
            rotate_left
            · unfold sop27; intro w hSw; (try dsimp only at hSw); go_simp; try (with_reducible rfl)
            try simp only [sop27, Act.put, List.setIfInBounds_toArray, List.set_cons_zero, List.set_cons_succ]
            refine wpAnyH_take (i := 28) (oi := sop28) (v := ?_) rfl (by as_aux_lemma => kernel_rfl) (by as_aux_lemma => kernel_rfl) (by as_aux_lemma => kernel_rfl) (fun _ _ _ h => h) (Or.inl ⟨by rfl, ?_⟩) (by assumption) ?_
            rotate_left
            · unfold sop28; intro w hSw; (try dsimp only at hSw); go_simp; try (with_reducible rfl)
            try simp only [sop28, Act.put, List.setIfInBounds_toArray, List.set_cons_zero, List.set_cons_succ]
            cases r4 with
            | false =>
             as_aux_lemma =>
              refine wpAnyH_take (i := 29) (oi := sop29) (v := undef) rfl (by as_aux_lemma => kernel_rfl) (by as_aux_lemma => kernel_rfl) (by as_aux_lemma => kernel_rfl) (fun _ _ _ h => h) (Or.inr ⟨by rfl, rfl⟩) (by assumption) ?_
              try simp only [sop29, Act.put, List.setIfInBounds_toArray, List.set_cons_zero, List.set_cons_succ]
              refine wpAnyH_take (i := 30) (oi := sop30) (v := undef) rfl (by as_aux_lemma => kernel_rfl) (by as_aux_lemma => kernel_rfl) (by as_aux_lemma => kernel_rfl) (fun _ _ _ h => h) (Or.inr ⟨by rfl, rfl⟩) (by assumption) ?_
              try simp only [sop30, Act.put, List.setIfInBounds_toArray, List.set_cons_zero, List.set_cons_succ]
              refine wpAnyH_take (i := 31) (oi := sop31) (v := undef) rfl (by as_aux_lemma => kernel_rfl) (by as_aux_lemma => kernel_rfl) (by as_aux_lemma => kernel_rfl) (fun _ _ _ h => h) (Or.inr ⟨by rfl, rfl⟩) (by assumption) ?_
              try simp only [sop31, Act.put, List.setIfInBounds_toArray, List.set_cons_zero, List.set_cons_succ]
              refine wpAnyH_take (i := 32) (oi := sop32) (v := undef) rfl (by as_aux_lemma => kernel_rfl) (by as_aux_lemma => kernel_rfl) (by as_aux_lemma => kernel_rfl) (fun _ _ _ h => h) (Or.inr ⟨by rfl, rfl⟩) (by assumption) ?_
              try simp only [sop32, Act.put, List.setIfInBounds_toArray, List.set_cons_zero, List.set_cons_succ]
              refine wpAnyH_take (i := 33) (oi := sop33) (v := undef) rfl (by as_aux_lemma => kernel_rfl) (by as_aux_lemma => kernel_rfl) (by as_aux_lemma => kernel_rfl) (fun _ _ _ h => h) (Or.inr ⟨by rfl, rfl⟩) (by assumption) ?_
              try simp only [sop33, Act.put, List.setIfInBounds_toArray, List.set_cons_zero, List.set_cons_succ]
              refine wpAnyH_take (i := 34) (oi := sop34) (v := ?_) rfl (by as_aux_lemma => kernel_rfl) (by as_aux_lemma => kernel_rfl) (by as_aux_lemma => kernel_rfl) (fun _ _ _ h => h) (Or.inl ⟨by rfl, ?_⟩) (by assumption) ?_
              rotate_left
              · unfold sop34; intro w hSw; (try dsimp only at hSw); go_simp; try (with_reducible rfl)
              try simp only [sop34, Act.put, List.setIfInBounds_toArray, List.set_cons_zero, List.set_cons_succ]
              refine wpAnyH_take (i := 35) (oi := sop35) (v := ?_) rfl (by as_aux_lemma => kernel_rfl) (by as_aux_lemma => kernel_rfl) (by as_aux_lemma => kernel_rfl) (fun _ _ _ h => h) (Or.inl ⟨by rfl, ?_⟩) (by assumption) ?_
              rotate_left
              · unfold sop35; intro w hSw; (try dsimp only at hSw); go_simp; try (with_reducible rfl)
              try simp only [sop35, Act.put, List.setIfInBounds_toArray, List.set_cons_zero, List.set_cons_succ]
              refine wpAnyH_done (by kernel_rfl) ?_ _
              go_wp2_with fail
              go_ret
              refine ⟨ret_bool (by rw [← HN.out]; first | rfl | (simp; done)), ?_⟩
              repeat (first | exact bV | exact Below.refl _ _ | refine below_drw ?_ | refine below_to ?_ (by assumption))
            | true =>
             as_aux_lemma =>
              refine wpAnyH_take (i := 29) (oi := sop29) (v := ?_) rfl (by as_aux_lemma => kernel_rfl) (by as_aux_lemma => kernel_rfl) (by as_aux_lemma => kernel_rfl) (fun _ _ _ h => h) (Or.inl ⟨by rfl, ?_⟩) (by assumption) ?_
              rotate_left
              · unfold sop29; intro w hSw; (try dsimp only at hSw); go_simp; try (with_reducible rfl)
              try simp only [sop29, Act.put, List.setIfInBounds_toArray, List.set_cons_zero, List.set_cons_succ]
              refine wpAnyH_take (i := 30) (oi := sop30) (v := ?_) rfl (by as_aux_lemma => kernel_rfl) (by as_aux_lemma => kernel_rfl) (by as_aux_lemma => kernel_rfl) (fun _ _ _ h => h) (Or.inl ⟨by rfl, ?_⟩) (by assumption) ?_
              rotate_left
              · unfold sop30; intro w hSw; (try dsimp only at hSw); go_simp; try (with_reducible rfl)
              try simp only [sop30, Act.put, List.setIfInBounds_toArray, List.set_cons_zero, List.set_cons_succ]
              refine wpAnyH_take (i := 31) (oi := sop31) (v := ?_) rfl (by as_aux_lemma => kernel_rfl) (by as_aux_lemma => kernel_rfl) (by as_aux_lemma => kernel_rfl) (fun _ _ _ h => h) (Or.inl ⟨by rfl, ?_⟩) (by assumption) ?_
              rotate_left
              · unfold sop31; intro w hSw; (try dsimp only at hSw); go_simp; try (with_reducible rfl)
              try simp only [sop31, Act.put, List.setIfInBounds_toArray, List.set_cons_zero, List.set_cons_succ]
              refine wpAnyH_take (i := 32) (oi := sop32) (v := ?_) rfl (by as_aux_lemma => kernel_rfl) (by as_aux_lemma => kernel_rfl) (by as_aux_lemma => kernel_rfl) (fun _ _ _ h => h) (Or.inl ⟨by rfl, ?_⟩) (by assumption) ?_
              rotate_left
              · unfold sop32; intro w hSw; (try dsimp only at hSw); go_simp; try (with_reducible rfl)
              try simp only [sop32, Act.put, List.setIfInBounds_toArray, List.set_cons_zero, List.set_cons_succ]
              refine wpAnyH_ready (rs := [33]) (by as_aux_lemma => kernel_rfl) (by simp) ?_
              refine AllReadyH.cons (o := sop33) rfl (fun K hK => ?_) AllReadyH.nil
              unfold sop33
              go_simp
              (go_at_call 21; (with_reducible refine (HQ.out _ ?_).mono ?_); (focus (repeat (first | exact bV | refine below_drw ?_ | refine below_to ?_ (by assumption)))); rintro e v5 ⟨rfl, bl5⟩)
              try go_wp2_with fail
              refine hK.out _ _ ?_ (fun hHeld2 => ?_)
              · (refine room16s K0 K1 ?_; repeat (first | exact Below.refl _ _ | refine below_drw ?_ | refine below_to ?_ (by assumption)))
              clear hK K hHeld
              have hHeld := hHeld2
              clear hHeld2
              try simp only [sop33, Act.put, List.setIfInBounds_toArray, List.set_cons_zero, List.set_cons_succ]
              as_aux_lemma =>
               refine wpAnyH_take (i := 34) (oi := sop34) (v := ?_) rfl (by as_aux_lemma => kernel_rfl) (by as_aux_lemma => kernel_rfl) (by as_aux_lemma => kernel_rfl) (fun _ _ _ h => h) (Or.inl ⟨by rfl, ?_⟩) (by assumption) ?_
               rotate_left
               · unfold sop34; intro w hSw; (try dsimp only at hSw); go_simp; try (with_reducible rfl)
               try simp only [sop34, Act.put, List.setIfInBounds_toArray, List.set_cons_zero, List.set_cons_succ]
               refine wpAnyH_take (i := 35) (oi := sop35) (v := ?_) rfl (by as_aux_lemma => kernel_rfl) (by as_aux_lemma => kernel_rfl) (by as_aux_lemma => kernel_rfl) (fun _ _ _ h => h) (Or.inl ⟨by rfl, ?_⟩) (by assumption) ?_
               rotate_left
               · unfold sop35; intro w hSw; (try dsimp only at hSw); go_simp; try (with_reducible rfl)
               try simp only [sop35, Act.put, List.setIfInBounds_toArray, List.set_cons_zero, List.set_cons_succ]
               refine wpAnyH_done (by kernel_rfl) ?_ _
               go_wp2_with fail
               go_ret
               refine ⟨ret_bool (by rw [← HN.out]; first | rfl | (simp; done)), ?_⟩
               repeat (first | exact bV | exact Below.refl _ _ | refine below_drw ?_ | refine below_to ?_ (by assumption))
end Go.Proofs.YtdjjncofahnaaaaGreat
