/- CentreInput and IsInput of the program and of the model, over the translation. IsInput of the program and of the model, over the translation. -/
import Derived.Test.YtibkmhmeoelpdaaGreatKd
import Derived.Test.YtibkmhmeoelpdaaGreatCq
namespace Go.Proofs.YtibkmhmeoelpdaaGreat
open Go.RowKit
open Geo (H3)

/-- the middle of a range -/
def cenN (s : Int) : Int := sgnR s 2
def cenD (s : Int) : Nat := botR s 2
def cenV (b : Bool) (s : Int) : Value := if b = true then .agg #[.int .i64 (cenN s), .int .i64 (cenD s)] else .agg #[.int .i64 0, .int .i64 0]
theorem cen_ex (b : Bool) (s : Int) : ∃ N D : Int, cenV b s = .agg #[.int .i64 N, .int .i64 D] := by
  unfold cenV; split
  · exact ⟨_, _, rfl⟩
  · exact ⟨0, 0, rfl⟩
theorem cen_has {s : Int} (h1 : -2000 ≤ s) (h2 : s ≤ 2000) : hasR s 2 = true ∧ topR s 2 ≤ 2000 ∧ botR s 2 ≤ 2 ∧ (-2000 ≤ sgnR s 2 ∧ sgnR s 2 ≤ 2000) := by
  have e := sgn_abs s 2
  have t : topR s 2 ≤ 2000 := by
    have : topR s 2 ≤ s.natAbs := by unfold topR; exact Nat.div_le_self _ _
    omega
  have b : botR s 2 ≤ 2 := by unfold botR; exact Nat.div_le_self _ _
  refine ⟨(hasR_iff s 2).2 ⟨by omega, by omega, by omega⟩, t, b, by omega⟩
theorem rm_rng {zs : List Int} {q bx cy lo hi : Int} {ps qs : List H3} (h : rmB zs q bx cy lo hi ps qs = true) : (-1000 ≤ lo ∧ lo ≤ 1000) ∧ (lo ≤ hi ∧ hi ≤ 1000) ∧ mapB zs q = true ∧ (-100 ≤ bx ∧ bx ≤ 100) ∧ (-100 ≤ cy ∧ cy ≤ 100) ∧ ps ≠ [] ∧ rokB ps = true ∧ qs ≠ [] ∧ rokB qs = true := by
  rw [rm_eq] at h
  simp only [Bool.and_eq_true, Bool.not_eq_true', decide_eq_false_iff_not] at h
  obtain ⟨⟨⟨⟨⟨⟨⟨⟨⟨h1, _⟩, h2⟩, h3⟩, h4⟩, h5⟩, h6⟩, h7⟩, h8⟩, h9⟩ := h
  exact ⟨of_inB h4, of_inB h5, h1, of_inB h2, of_inB h3, h8, h6, h9, h7⟩

set_option maxRecDepth 100000 in
set_option maxHeartbeats 1600000 in
theorem impl_cen (am : Option Addr) (nm cm : Nat) (zs : List Int) (q bx cy lo hi : Int) (an : Option Addr) (nn cn : Nat) (ps : List H3) (al : Option Addr) (nl cl : Nat) (qs : List H3) (w : World) (hA : RAt w am nm zs an nn ps al nl qs) (h64 : R64 q bx cy lo hi ps qs) (hle : nm + nn + nl ≤ 1048576) :
    Calls Tryz.prog 27 #[.agg #[.slice am nm cm, .int .i64 q, .int .i64 bx, .int .i64 cy, .int .i64 lo, .int .i64 hi, .slice an nn cn, .slice al nl cl]] w fun e w' => e = .returned (cenV (rmB zs q bx cy lo hi ps qs) (lo + hi)) ∧ Below w.heap.size w w' := by
  have bV := below_bx2 (below_one w (.cells #[.slice am nm cm, .int .i64 q, .int .i64 bx, .int .i64 cy, .int .i64 lo, .int .i64 hi, .slice an nn cn, .slice al nl cl] 42)) (.cells #[.int .i64 0, .int .i64 0] 33)
  have K0 := (blk_new w #[.slice am nm cm, .int .i64 q, .int .i64 bx, .int .i64 cy, .int .i64 lo, .int .i64 hi, .slice an nn cn, .slice al nl cl] 42 rfl).to (below_one _ (.cells #[.int .i64 0, .int .i64 0] 33))
  have K1 := blk_new (w.alloc (.cells #[.slice am nm cm, .int .i64 q, .int .i64 bx, .int .i64 cy, .int .i64 lo, .int .i64 hi, .slice an nn cn, .slice al nl cl] 42)) #[.int .i64 0, .int .i64 0] 33 (b := w.heap.size + 1) (by simp)
  have HR := Lib.hid (fun V b (h : Below w.heap.size w V) (hb : rmB zs q bx cy lo hi ps qs = b) => impl_room am nm cm zs q bx cy lo hi an nn cn ps al nl cl qs V b hb (hA.below h) h64 hle)
  clear hA h64
  cases hr : rmB zs q bx cy lo hi ps qs with
  | false =>
    have HB := Lib.hid (fun V (h : Below w.heap.size w V) => HR.out V false h hr)
    clear hr HR
    go_enter Tryz.func27, Tryz.ntmps27
    have k0 := K0.c8_0
    have k1 := K0.c8_1
    have k2 := K0.c8_2
    have k3 := K0.c8_3
    have k4 := K0.c8_4
    have k5 := K0.c8_5
    have k6 := K0.c8_6
    have k7 := K0.c8_7
    go_wp2_with fail
    generalize (w.alloc (.cells #[.slice am nm cm, .int .i64 q, .int .i64 bx, .int .i64 cy, .int .i64 lo, .int .i64 hi, .slice an nn cn, .slice al nl cl] 42)).alloc (.cells #[.int .i64 0, .int .i64 0] 33) = V at *
    refine (HB.out _ bV).mono ?_
    rintro e w1 ⟨rfl, bl1⟩
    have b1 := below_to bV bl1
    have L1 := K1.to bl1
    clear k0 k1 k2 k3 k4 k5 k6 k7
    have r0 := L1.cell0 (i := 0) (v := .int .i64 0) rfl
    have r1 := L1.cell0 (i := 1) (v := .int .i64 0) rfl
    have f0 := L1.free 0
    have f1 := L1.free 1
    go_wp2_with fail
    exact bodyPost_ret (v := .agg #[.int .i64 0, .int .i64 0]) (by simp [results, Tryz.results27, go_sem, r0, r1]) rfl ⟨by simp [cenV], (b1.setCell (p := ⟨w.heap.size + 1, 0, none⟩) (Nat.le_add_right _ _) _).setCell (p := ⟨w.heap.size + 1, 1, none⟩) (Nat.le_add_right _ _) _⟩
  | true =>
    have HB := Lib.hid (fun V (h : Below w.heap.size w V) => HR.out V true h hr)
    obtain ⟨⟨x1, x2⟩, ⟨y1, y2⟩, _⟩ := rm_rng hr
    obtain ⟨z1, z2, z3, z4, z5⟩ := cen_has (s := lo + hi) (by omega) (by omega)
    have HO := Lib.hid (fun V => impl_of (lo + hi) 2 (cenN (lo + hi)) (topR (lo + hi) 2) (cenD (lo + hi)) V (by omega) (by omega) (by omega) (by omega) z1 rfl rfl rfl)
    have w1' : IntKind.i64.wrap (lo + hi) = lo + hi := IntWalk.i64_in _ (by omega)
    have HC := Lib.hid (show cenV true (lo + hi) = .agg #[.int .i64 (cenN (lo + hi)), .int .i64 (cenD (lo + hi))] from rfl)
    clear hr HR z1 z2 z3 z4 z5 x1 x2 y1 y2
    generalize cenN (lo + hi) = N at *
    generalize cenD (lo + hi) = D at *
    go_enter Tryz.func27, Tryz.ntmps27
    have k0 := K0.c8_0
    have k1 := K0.c8_1
    have k2 := K0.c8_2
    have k3 := K0.c8_3
    have k4 := K0.c8_4
    have k5 := K0.c8_5
    have k6 := K0.c8_6
    have k7 := K0.c8_7
    go_wp2_with fail
    generalize (w.alloc (.cells #[.slice am nm cm, .int .i64 q, .int .i64 bx, .int .i64 cy, .int .i64 lo, .int .i64 hi, .slice an nn cn, .slice al nl cl] 42)).alloc (.cells #[.int .i64 0, .int .i64 0] 33) = V at *
    refine (HB.out _ bV).mono ?_
    rintro e w1 ⟨rfl, bl1⟩
    have b1 := below_to bV bl1
    have L0 := K0.to bl1
    have L1 := K1.to bl1
    clear k0 k1 k2 k3 k4 k5 k6 k7
    have k4 := L0.c8_4
    have k5 := L0.c8_5
    go_wp2_with fail
    refine (HO.out _).mono ?_
    rintro e w2 ⟨rfl, bl2⟩
    have b2 := below_to b1 bl2
    have M1 := L1.to bl2
    have r0 := M1.cell0 (i := 0) (v := .int .i64 0) rfl
    have r1 := M1.cell0 (i := 1) (v := .int .i64 0) rfl
    have f0 := M1.free 0
    have f1 := M1.free 1
    go_wp2_with fail
    exact bodyPost_ret (v := .agg #[.int .i64 N, .int .i64 D]) (by simp [results, Tryz.results27, go_sem, r0, r1]) rfl ⟨by rw [HC.out], (b2.setCell (p := ⟨w.heap.size + 1, 0, none⟩) (Nat.le_add_right _ _) _).setCell (p := ⟨w.heap.size + 1, 1, none⟩) (Nat.le_add_right _ _) _⟩
/-- whether an input is in a room's range -/
def isiB (zs : List Int) (q bx cy lo hi : Int) (ps qs : List H3) (uN uD : Int) : Bool := rmB zs q bx cy lo hi ps qs && okR uN uD && inB uN (lo * uD) (hi * uD)

def iop0 : Oper :=
  { dst := some 13, op := Op.fieldAddr 42 (Operand.tmp 2) 4, type := 0, pos := "l08_room.go:99", after := #[], guard := none }
def iop1 : Oper :=
  { dst := some 14, op := Op.load 3 (Operand.tmp 13), type := 3, pos := "l08_room.go:99", after := #[{ on := 0, ground := Ground.data }], guard := none }
def iop2 : Oper :=
  { dst := some 15, op := Op.call { callee := Callee.value (Operand.func 30), args := #[Operand.tmp 14, Operand.const (Value.int IntKind.i64 1)], argTypes := #[3, 3] }, type := 33, pos := "l08_room.go:99", after := #[{ on := 1, ground := Ground.data }], guard := none }
def iop3 : Oper :=
  { dst := some 16, op := Op.load 33 (Operand.tmp 3), type := 33, pos := "l08_room.go:99", after := #[], guard := none }
def iop4 : Oper :=
  { dst := some 17, op := Op.call { callee := Callee.value (Operand.func 29), args := #[Operand.tmp 15, Operand.tmp 16], argTypes := #[33, 33] }, type := 3, pos := "l08_room.go:99", after := #[{ on := 2, ground := Ground.data }, { on := 3, ground := Ground.data }, { on := 2, ground := Ground.chain }], guard := none }
def iop5 : Oper :=
  { dst := some 18, op := Op.binOp BinOp.leq 3 (Operand.tmp 17) (Operand.const (Value.int IntKind.i64 0)) 3, type := 4, pos := "l08_room.go:99", after := #[{ on := 4, ground := Ground.data }], guard := none }
def iop6 : Oper :=
  { dst := some 19, op := Op.move (Operand.tmp 18), type := 4, pos := "l08_room.go:99", after := #[{ on := 5, ground := Ground.data }, { on := 4, ground := Ground.chain }], guard := none }
def iop7 : Oper :=
  { dst := some 20, op := Op.load 33 (Operand.tmp 3), type := 33, pos := "l08_room.go:99", after := #[{ on := 6, ground := Ground.guard }], guard := some (6, true) }
def iop8 : Oper :=
  { dst := some 21, op := Op.fieldAddr 42 (Operand.tmp 2) 5, type := 0, pos := "l08_room.go:99", after := #[{ on := 6, ground := Ground.guard }], guard := some (6, true) }
def iop9 : Oper :=
  { dst := some 22, op := Op.load 3 (Operand.tmp 21), type := 3, pos := "l08_room.go:99", after := #[{ on := 8, ground := Ground.data }, { on := 6, ground := Ground.guard }], guard := some (6, true) }
def iop10 : Oper :=
  { dst := some 23, op := Op.call { callee := Callee.value (Operand.func 30), args := #[Operand.tmp 22, Operand.const (Value.int IntKind.i64 1)], argTypes := #[3, 3] }, type := 33, pos := "l08_room.go:99", after := #[{ on := 9, ground := Ground.data }, { on := 6, ground := Ground.chain }, { on := 6, ground := Ground.guard }], guard := some (6, true) }
def iop11 : Oper :=
  { dst := some 24, op := Op.call { callee := Callee.value (Operand.func 29), args := #[Operand.tmp 20, Operand.tmp 23], argTypes := #[33, 33] }, type := 3, pos := "l08_room.go:99", after := #[{ on := 7, ground := Ground.data }, { on := 10, ground := Ground.data }, { on := 10, ground := Ground.chain }, { on := 6, ground := Ground.guard }], guard := some (6, true) }
def iop12 : Oper :=
  { dst := some 25, op := Op.binOp BinOp.leq 3 (Operand.tmp 24) (Operand.const (Value.int IntKind.i64 0)) 3, type := 4, pos := "l08_room.go:99", after := #[{ on := 11, ground := Ground.data }, { on := 6, ground := Ground.guard }], guard := some (6, true) }
def iop13 : Oper :=
  { dst := some 26, op := Op.pick (Operand.tmp 19) (Operand.tmp 25) (Operand.const (Value.bool false)), type := 4, pos := "l08_room.go:99", after := #[{ on := 6, ground := Ground.data }, { on := 12, ground := Ground.data }], guard := none }
def iop14 : Oper :=
  { dst := some 4, op := Op.assign (Operand.tmp 26), type := 4, pos := "l08_room.go:99", after := #[{ on := 13, ground := Ground.data }, { on := 11, ground := Ground.chain }, { on := 0, ground := Ground.phase }, { on := 1, ground := Ground.phase }, { on := 2, ground := Ground.phase }, { on := 3, ground := Ground.phase }, { on := 4, ground := Ground.phase }, { on := 5, ground := Ground.phase }, { on := 6, ground := Ground.phase }, { on := 7, ground := Ground.phase }, { on := 8, ground := Ground.phase }, { on := 9, ground := Ground.phase }, { on := 10, ground := Ground.phase }, { on := 11, ground := Ground.phase }, { on := 12, ground := Ground.phase }, { on := 13, ground := Ground.phase }], guard := none }
theorem cmp_low {lo uN uD : Int} : (cmpR lo 1 uN uD ≤ 0 ↔ lo * uD ≤ uN) ∧ (cmpR uN uD lo 1 ≤ 0 ↔ uN ≤ lo * uD) := by
  unfold cmpR
  rw [Int.mul_one]
  constructor <;> (split <;> (try split) <;> omega)
theorem one_has (n : Int) (h1 : -1000 ≤ n) (h2 : n ≤ 1000) : hasR n 1 = true ∧ sgnR n 1 = n ∧ topR n 1 = n.natAbs ∧ botR n 1 = 1 ∧ okR n 1 = true := by
  have e : Int.gcd n 1 = 1 := by simp
  have t : topR n 1 = n.natAbs := by unfold topR; rw [e]; simp
  have b : botR n 1 = 1 := by unfold botR; rw [e]; rfl
  have s : sgnR n 1 = n := by
    unfold sgnR
    rw [t]
    by_cases h : n < 0
    · rw [if_pos (by simp [h])]; omega
    · rw [if_neg (by simp [h])]; omega
  refine ⟨(hasR_iff n 1).2 ⟨by omega, by omega, by omega⟩, s, t, b, (okR_iff _ _).2 ⟨by omega, by omega, by omega, by omega, by simp⟩⟩
set_option maxRecDepth 100000 in
set_option maxHeartbeats 3200000 in
theorem impl_isi (am : Option Addr) (nm cm : Nat) (zs : List Int) (q bx cy lo hi : Int) (an : Option Addr) (nn cn : Nat) (ps : List H3) (al : Option Addr) (nl cl : Nat) (qs : List H3) (uN uD : Int) (w : World) (hA : RAt w am nm zs an nn ps al nl qs) (h64 : R64 q bx cy lo hi ps qs) (hu : (-9223372036854775808 ≤ uN ∧ uN ≤ 9223372036854775807) ∧ -9223372036854775808 ≤ uD ∧ uD ≤ 9223372036854775807) (hle : nm + nn + nl ≤ 1048576) :
    Calls Tryz.prog 34 #[.agg #[.slice am nm cm, .int .i64 q, .int .i64 bx, .int .i64 cy, .int .i64 lo, .int .i64 hi, .slice an nn cn, .slice al nl cl], .agg #[.int .i64 uN, .int .i64 uD]] w fun e w' => e = .returned (.bool (isiB zs q bx cy lo hi ps qs uN uD)) ∧ Below w.heap.size w w' := by
  have bV := below_bx2 (below_one w (.cells #[.slice am nm cm, .int .i64 q, .int .i64 bx, .int .i64 cy, .int .i64 lo, .int .i64 hi, .slice an nn cn, .slice al nl cl] 42)) (.cells #[.int .i64 uN, .int .i64 uD] 33)
  have K0 := (blk_new w #[.slice am nm cm, .int .i64 q, .int .i64 bx, .int .i64 cy, .int .i64 lo, .int .i64 hi, .slice an nn cn, .slice al nl cl] 42 rfl).to (below_one _ (.cells #[.int .i64 uN, .int .i64 uD] 33))
  have KU := blk_new (w.alloc (.cells #[.slice am nm cm, .int .i64 q, .int .i64 bx, .int .i64 cy, .int .i64 lo, .int .i64 hi, .slice an nn cn, .slice al nl cl] 42)) #[.int .i64 uN, .int .i64 uD] 33 (b := w.heap.size + 1) (by simp)
  have u0 := KU.cell0 (i := 0) (v := .int .i64 uN) rfl
  have u1 := KU.cell0 (i := 1) (v := .int .i64 uD) rfl
  have k0 := K0.c8_0
  have k1 := K0.c8_1
  have k2 := K0.c8_2
  have k3 := K0.c8_3
  have k4 := K0.c8_4
  have k5 := K0.c8_5
  have k6 := K0.c8_6
  have k7 := K0.c8_7
  have HR := Lib.hid (fun V (h : Below w.heap.size w V) => impl_room am nm cm zs q bx cy lo hi an nn cn ps al nl cl qs V _ rfl (hA.below h) h64 hle)
  have HK := Lib.hid (fun V => impl_ok uN uD V hu.1.1 hu.1.2 hu.2.1 hu.2.2)
  have HX := Lib.hid (fun (h : rmB zs q bx cy lo hi ps qs = true) => rm_rng h)
  have HB := Lib.hid (show isiB zs q bx cy lo hi ps qs uN uD = (rmB zs q bx cy lo hi ps qs && okR uN uD && inB uN (lo * uD) (hi * uD)) from rfl)
  have HU := Lib.hid hu
  clear hA h64 hu
  generalize isiB zs q bx cy lo hi ps qs uN uD = b at *
  generalize rmB zs q bx cy lo hi ps qs = r1 at *
  obtain ⟨r2, hr2⟩ : ∃ r, okR uN uD = r := ⟨_, rfl⟩
  rw [hr2] at HK HB
  go_enter Tryz.func34, Tryz.ntmps34
  go_wp2_with fail
  generalize (w.alloc (.cells #[.slice am nm cm, .int .i64 q, .int .i64 bx, .int .i64 cy, .int .i64 lo, .int .i64 hi, .slice an nn cn, .slice al nl cl] 42)).alloc (.cells #[.int .i64 uN, .int .i64 uD] 33) = V at *
  refine (HK.out _).mono ?_
  rintro e w1 ⟨rfl, bl1⟩
  have b1 := below_to bV bl1
  have L0 := K0.to bl1
  have LU := KU.to bl1
  clear k0 k1 k2 k3 k4 k5 k6 k7 u0 u1
  clear bV bl1 K0 KU HK
  have k0 := L0.c8_0
  have k1 := L0.c8_1
  have k2 := L0.c8_2
  have k3 := L0.c8_3
  have k4 := L0.c8_4
  have k5 := L0.c8_5
  have k6 := L0.c8_6
  have k7 := L0.c8_7
  cases r2 with
  | false =>
    have HN := Lib.hid (show b = false by rw [HB.out]; simp)
    go_wp2
    go_ret
    exact ⟨ret_bool HN.out.symm, b1⟩
  | true =>
    go_wp2_with fail
    refine (HR.out _ b1).mono ?_
    rintro e w2 ⟨rfl, bl2⟩
    have b2 := below_to b1 bl2
    have M0 := L0.to bl2
    have MU := LU.to bl2
    clear k0 k1 k2 k3 k4 k5 k6 k7 b1 bl2 L0 LU HR
    cases r1 with
    | false =>
      have HN := Lib.hid (show b = false by rw [HB.out]; rfl)
      go_wp2
      go_ret
      exact ⟨ret_bool HN.out.symm, b2⟩
    | true =>
      obtain ⟨⟨x1, x2⟩, ⟨y1, y2⟩, _⟩ := HX.out rfl
      obtain ⟨o1, o2, o3, o4, o5⟩ := (okR_iff _ _).1 hr2
      obtain ⟨l1, l2, l3, l4, l5⟩ := one_has lo x1 x2
      obtain ⟨h1, h2, h3, h4, h5⟩ := one_has hi (by omega) y2
      have HL := Lib.hid (fun V => impl_of lo 1 lo lo.natAbs 1 V (by omega) (by omega) (by omega) (by omega) l1 l2 l3 l4)
      have HH := Lib.hid (fun V => impl_of hi 1 hi hi.natAbs 1 V (by omega) (by omega) (by omega) (by omega) h1 h2 h3 h4)
      have HC1 := Lib.hid (fun V => impl_cmp_loop lo 1 uN uD V (by omega) (by omega) (by omega) (by omega) (by omega) (by omega) (by omega) (by omega) l5 hr2)
      have HC2 := Lib.hid (fun V => impl_cmp_loop uN uD hi 1 V (by omega) (by omega) (by omega) (by omega) (by omega) (by omega) (by omega) (by omega) hr2 h5)
      have e1 := (cmp_low (lo := lo) (uN := uN) (uD := uD)).1
      have e2 := (cmp_low (lo := hi) (uN := uN) (uD := uD)).2
      have HN := Lib.hid (show b = (decide (cmpR lo 1 uN uD ≤ 0) && decide (cmpR uN uD hi 1 ≤ 0)) by
        rw [HB.out]
        unfold inB
        rw [Bool.true_and, Bool.true_and]
        congr 1
        · exact decide_eq_decide.2 e1.symm
        · exact decide_eq_decide.2 e2.symm)
      clear l1 l2 l3 l4 l5 h1 h2 h3 h4 h5 hr2 HX HB e1 e2 HU
      generalize cmpR lo 1 uN uD = d1 at *
      generalize cmpR uN uD hi 1 = d2 at *
      obtain ⟨r1, hr1⟩ : ∃ r, decide (d1 ≤ 0) = r := ⟨_, rfl⟩
      obtain ⟨r2, hr2⟩ : ∃ r, decide (d2 ≤ 0) = r := ⟨_, rfl⟩
      rw [hr1, hr2] at HN
      have u0 := MU.cell0 (i := 0) (v := .int .i64 uN) rfl
      have u1 := MU.cell0 (i := 1) (v := .int .i64 uD) rfl
      have k4 := M0.c8_4
      have k5 := M0.c8_5

      go_wp2
      refine wp_region_held_drew (S := (fun w' => w'.cell? ⟨w.heap.size, 4, none⟩ = some (.int .i64 lo) ∧ w'.cell? ⟨w.heap.size, 5, none⟩ = some (.int .i64 hi) ∧ w'.cell? ⟨w.heap.size + 1, 0, none⟩ = some (.int .i64 uN) ∧ w'.cell? ⟨w.heap.size + 1, 1, none⟩ = some (.int .i64 uD))) (by kernel_rfl) ?_ (fun hHeld => ?_)
      · (refine fourc k4 k5 u0 u1 ?_; repeat (first | exact Below.refl _ _ | refine below_drw ?_ | refine below_to ?_ (by assumption)))
      refine wpAnyH_take (i := 0) (oi := iop0) (v := ?_) rfl (by as_aux_lemma => kernel_rfl) (by as_aux_lemma => kernel_rfl) (by as_aux_lemma => kernel_rfl) (fun _ _ _ h => h) (Or.inl ⟨by rfl, ?_⟩) (by assumption) ?_
      rotate_left
      · unfold iop0; intro w hSw; (try dsimp only at hSw); go_simp; try (with_reducible rfl)
      try simp only [iop0, Act.put, List.setIfInBounds_toArray, List.set_cons_zero, List.set_cons_succ]
      refine wpAnyH_take (i := 1) (oi := iop1) (v := ?_) rfl (by as_aux_lemma => kernel_rfl) (by as_aux_lemma => kernel_rfl) (by as_aux_lemma => kernel_rfl) (fun _ _ _ h => h) (Or.inl ⟨by rfl, ?_⟩) (by assumption) ?_
      rotate_left
      · unfold iop1; intro w hSw; (try dsimp only at hSw); go_simp; try (with_reducible rfl)
      try simp only [iop1, Act.put, List.setIfInBounds_toArray, List.set_cons_zero, List.set_cons_succ]
      refine wpAnyH_take (i := 3) (oi := iop3) (v := ?_) rfl (by as_aux_lemma => kernel_rfl) (by as_aux_lemma => kernel_rfl) (by as_aux_lemma => kernel_rfl) (fun _ _ _ h => h) (Or.inl ⟨by rfl, ?_⟩) (by assumption) ?_
      rotate_left
      · unfold iop3; intro w hSw; (try dsimp only at hSw); go_simp; try (with_reducible rfl)
      try simp only [iop3, Act.put, List.setIfInBounds_toArray, List.set_cons_zero, List.set_cons_succ]
      refine wpAnyH_ready (rs := [2]) (by as_aux_lemma => kernel_rfl) (by simp) ?_
      refine AllReadyH.cons (o := iop2) rfl (fun K hK => ?_) AllReadyH.nil
      unfold iop2
      go_simp
      (go_at_call 30; (with_reducible refine (HL.out _).mono ?_); rintro e v1 ⟨rfl, bl1⟩)
      try go_wp2_with fail
      refine hK.out _ _ ?_ (fun hHeld2 => ?_)
      · (refine fourc k4 k5 u0 u1 ?_; repeat (first | exact Below.refl _ _ | refine below_drw ?_ | refine below_to ?_ (by assumption)))
      clear hK K hHeld
      have hHeld := hHeld2
      clear hHeld2
      try simp only [iop2, Act.put, List.setIfInBounds_toArray, List.set_cons_zero, List.set_cons_succ]
      as_aux_lemma =>
       refine wpAnyH_ready (rs := [4]) (by as_aux_lemma => kernel_rfl) (by simp) ?_
       refine AllReadyH.cons (o := iop4) rfl (fun K hK => ?_) AllReadyH.nil
       unfold iop4
       go_simp
       (go_at_call 29; (with_reducible refine (HC1.out _).mono ?_); rintro e v2 ⟨rfl, bl2⟩)
       try go_wp2_with fail
       refine hK.out _ _ ?_ (fun hHeld2 => ?_)
       · (refine fourc k4 k5 u0 u1 ?_; repeat (first | exact Below.refl _ _ | refine below_drw ?_ | refine below_to ?_ (by assumption)))
       clear hK K hHeld
       have hHeld := hHeld2
       clear hHeld2
       try simp only [iop4, Act.put, List.setIfInBounds_toArray, List.set_cons_zero, List.set_cons_succ]
       as_aux_lemma =>
        refine wpAnyH_take (i := 5) (oi := iop5) (v := ?_) rfl (by as_aux_lemma => kernel_rfl) (by as_aux_lemma => kernel_rfl) (by as_aux_lemma => kernel_rfl) (fun _ _ _ h => h) (Or.inl ⟨by rfl, ?_⟩) (by assumption) ?_
        rotate_left
        · unfold iop5; intro w hSw; (try dsimp only at hSw); go_simp; try (with_reducible rfl)
        try simp only [iop5, Act.put, List.setIfInBounds_toArray, List.set_cons_zero, List.set_cons_succ]
        refine wpAnyH_take (i := 6) (oi := iop6) (v := ?_) rfl (by as_aux_lemma => kernel_rfl) (by as_aux_lemma => kernel_rfl) (by as_aux_lemma => kernel_rfl) (fun _ _ _ h => h) (Or.inl ⟨by rfl, ?_⟩) (by assumption) ?_
        rotate_left
        · unfold iop6; intro w hSw; (try dsimp only at hSw); go_simp; try (with_reducible rfl)
        try simp only [iop6, Act.put, List.setIfInBounds_toArray, List.set_cons_zero, List.set_cons_succ]
        cases r1 with
        | false =>
         as_aux_lemma =>
          refine wpAnyH_take (i := 7) (oi := iop7) (v := undef) rfl (by as_aux_lemma => kernel_rfl) (by as_aux_lemma => kernel_rfl) (by as_aux_lemma => kernel_rfl) (fun _ _ _ h => h) (Or.inr ⟨by rfl, rfl⟩) (by assumption) ?_
          try simp only [iop7, Act.put, List.setIfInBounds_toArray, List.set_cons_zero, List.set_cons_succ]
          refine wpAnyH_take (i := 8) (oi := iop8) (v := undef) rfl (by as_aux_lemma => kernel_rfl) (by as_aux_lemma => kernel_rfl) (by as_aux_lemma => kernel_rfl) (fun _ _ _ h => h) (Or.inr ⟨by rfl, rfl⟩) (by assumption) ?_
          try simp only [iop8, Act.put, List.setIfInBounds_toArray, List.set_cons_zero, List.set_cons_succ]
          refine wpAnyH_take (i := 9) (oi := iop9) (v := undef) rfl (by as_aux_lemma => kernel_rfl) (by as_aux_lemma => kernel_rfl) (by as_aux_lemma => kernel_rfl) (fun _ _ _ h => h) (Or.inr ⟨by rfl, rfl⟩) (by assumption) ?_
          try simp only [iop9, Act.put, List.setIfInBounds_toArray, List.set_cons_zero, List.set_cons_succ]
          refine wpAnyH_take (i := 10) (oi := iop10) (v := undef) rfl (by as_aux_lemma => kernel_rfl) (by as_aux_lemma => kernel_rfl) (by as_aux_lemma => kernel_rfl) (fun _ _ _ h => h) (Or.inr ⟨by rfl, rfl⟩) (by assumption) ?_
          try simp only [iop10, Act.put, List.setIfInBounds_toArray, List.set_cons_zero, List.set_cons_succ]
          refine wpAnyH_take (i := 11) (oi := iop11) (v := undef) rfl (by as_aux_lemma => kernel_rfl) (by as_aux_lemma => kernel_rfl) (by as_aux_lemma => kernel_rfl) (fun _ _ _ h => h) (Or.inr ⟨by rfl, rfl⟩) (by assumption) ?_
          try simp only [iop11, Act.put, List.setIfInBounds_toArray, List.set_cons_zero, List.set_cons_succ]
          refine wpAnyH_take (i := 12) (oi := iop12) (v := undef) rfl (by as_aux_lemma => kernel_rfl) (by as_aux_lemma => kernel_rfl) (by as_aux_lemma => kernel_rfl) (fun _ _ _ h => h) (Or.inr ⟨by rfl, rfl⟩) (by assumption) ?_
          try simp only [iop12, Act.put, List.setIfInBounds_toArray, List.set_cons_zero, List.set_cons_succ]
          refine wpAnyH_take (i := 13) (oi := iop13) (v := ?_) rfl (by as_aux_lemma => kernel_rfl) (by as_aux_lemma => kernel_rfl) (by as_aux_lemma => kernel_rfl) (fun _ _ _ h => h) (Or.inl ⟨by rfl, ?_⟩) (by assumption) ?_
          rotate_left
          · unfold iop13; intro w hSw; (try dsimp only at hSw); go_simp; try (with_reducible rfl)
          try simp only [iop13, Act.put, List.setIfInBounds_toArray, List.set_cons_zero, List.set_cons_succ]
          refine wpAnyH_take (i := 14) (oi := iop14) (v := ?_) rfl (by as_aux_lemma => kernel_rfl) (by as_aux_lemma => kernel_rfl) (by as_aux_lemma => kernel_rfl) (fun _ _ _ h => h) (Or.inl ⟨by rfl, ?_⟩) (by assumption) ?_
          rotate_left
          · unfold iop14; intro w hSw; (try dsimp only at hSw); go_simp; try (with_reducible rfl)
          try simp only [iop14, Act.put, List.setIfInBounds_toArray, List.set_cons_zero, List.set_cons_succ]
          refine wpAnyH_done (by kernel_rfl) ?_ _
          go_wp2_with fail
          go_ret
          refine ⟨ret_bool (by rw [HN.out]; first | rfl | (simp; done)), ?_⟩
          repeat (first | exact b2 | exact Below.refl _ _ | refine below_drw ?_ | refine below_to ?_ (by assumption))
        | true =>
         as_aux_lemma =>
          refine wpAnyH_take (i := 7) (oi := iop7) (v := ?_) rfl (by as_aux_lemma => kernel_rfl) (by as_aux_lemma => kernel_rfl) (by as_aux_lemma => kernel_rfl) (fun _ _ _ h => h) (Or.inl ⟨by rfl, ?_⟩) (by assumption) ?_
          rotate_left
          · unfold iop7; intro w hSw; (try dsimp only at hSw); go_simp; try (with_reducible rfl)
          try simp only [iop7, Act.put, List.setIfInBounds_toArray, List.set_cons_zero, List.set_cons_succ]
          refine wpAnyH_take (i := 8) (oi := iop8) (v := ?_) rfl (by as_aux_lemma => kernel_rfl) (by as_aux_lemma => kernel_rfl) (by as_aux_lemma => kernel_rfl) (fun _ _ _ h => h) (Or.inl ⟨by rfl, ?_⟩) (by assumption) ?_
          rotate_left
          · unfold iop8; intro w hSw; (try dsimp only at hSw); go_simp; try (with_reducible rfl)
          try simp only [iop8, Act.put, List.setIfInBounds_toArray, List.set_cons_zero, List.set_cons_succ]
          refine wpAnyH_take (i := 9) (oi := iop9) (v := ?_) rfl (by as_aux_lemma => kernel_rfl) (by as_aux_lemma => kernel_rfl) (by as_aux_lemma => kernel_rfl) (fun _ _ _ h => h) (Or.inl ⟨by rfl, ?_⟩) (by assumption) ?_
          rotate_left
          · unfold iop9; intro w hSw; (try dsimp only at hSw); go_simp; try (with_reducible rfl)
          try simp only [iop9, Act.put, List.setIfInBounds_toArray, List.set_cons_zero, List.set_cons_succ]
          refine wpAnyH_ready (rs := [10]) (by as_aux_lemma => kernel_rfl) (by simp) ?_
          refine AllReadyH.cons (o := iop10) rfl (fun K hK => ?_) AllReadyH.nil
          unfold iop10
          go_simp
          (go_at_call 30; (with_reducible refine (HH.out _).mono ?_); rintro e v3 ⟨rfl, bl3⟩)
          try go_wp2_with fail
          refine hK.out _ _ ?_ (fun hHeld2 => ?_)
          · (refine fourc k4 k5 u0 u1 ?_; repeat (first | exact Below.refl _ _ | refine below_drw ?_ | refine below_to ?_ (by assumption)))
          clear hK K hHeld
          have hHeld := hHeld2
          clear hHeld2
          try simp only [iop10, Act.put, List.setIfInBounds_toArray, List.set_cons_zero, List.set_cons_succ]
          as_aux_lemma =>
           refine wpAnyH_ready (rs := [11]) (by as_aux_lemma => kernel_rfl) (by simp) ?_
           refine AllReadyH.cons (o := iop11) rfl (fun K hK => ?_) AllReadyH.nil
           unfold iop11
           go_simp
           (go_at_call 29; (with_reducible refine (HC2.out _).mono ?_); rintro e v4 ⟨rfl, bl4⟩)
           try go_wp2_with fail
           refine hK.out _ _ ?_ (fun hHeld2 => ?_)
           · (refine fourc k4 k5 u0 u1 ?_; repeat (first | exact Below.refl _ _ | refine below_drw ?_ | refine below_to ?_ (by assumption)))
           clear hK K hHeld
           have hHeld := hHeld2
           clear hHeld2
           try simp only [iop11, Act.put, List.setIfInBounds_toArray, List.set_cons_zero, List.set_cons_succ]
           as_aux_lemma =>
            refine wpAnyH_take (i := 12) (oi := iop12) (v := ?_) rfl (by as_aux_lemma => kernel_rfl) (by as_aux_lemma => kernel_rfl) (by as_aux_lemma => kernel_rfl) (fun _ _ _ h => h) (Or.inl ⟨by rfl, ?_⟩) (by assumption) ?_
            rotate_left
            · unfold iop12; intro w hSw; (try dsimp only at hSw); go_simp; try (with_reducible rfl)
            try simp only [iop12, Act.put, List.setIfInBounds_toArray, List.set_cons_zero, List.set_cons_succ]
            refine wpAnyH_take (i := 13) (oi := iop13) (v := ?_) rfl (by as_aux_lemma => kernel_rfl) (by as_aux_lemma => kernel_rfl) (by as_aux_lemma => kernel_rfl) (fun _ _ _ h => h) (Or.inl ⟨by rfl, ?_⟩) (by assumption) ?_
            rotate_left
            · unfold iop13; intro w hSw; (try dsimp only at hSw); go_simp; try (with_reducible rfl)
            try simp only [iop13, Act.put, List.setIfInBounds_toArray, List.set_cons_zero, List.set_cons_succ]
            refine wpAnyH_take (i := 14) (oi := iop14) (v := ?_) rfl (by as_aux_lemma => kernel_rfl) (by as_aux_lemma => kernel_rfl) (by as_aux_lemma => kernel_rfl) (fun _ _ _ h => h) (Or.inl ⟨by rfl, ?_⟩) (by assumption) ?_
            rotate_left
            · unfold iop14; intro w hSw; (try dsimp only at hSw); go_simp; try (with_reducible rfl)
            try simp only [iop14, Act.put, List.setIfInBounds_toArray, List.set_cons_zero, List.set_cons_succ]
            refine wpAnyH_done (by kernel_rfl) ?_ _
            go_wp2_with fail
            go_ret
            refine ⟨ret_bool (by rw [HN.out]; first | rfl | (simp; done)), ?_⟩
            repeat (first | exact b2 | exact Below.refl _ _ | refine below_drw ?_ | refine below_to ?_ (by assumption))
end Go.Proofs.YtibkmhmeoelpdaaGreat
