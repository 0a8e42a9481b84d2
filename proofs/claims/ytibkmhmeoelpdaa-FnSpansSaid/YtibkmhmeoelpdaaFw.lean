/- WholeInputs of the model, over the translation. -/
import Derived.Test.YtibkmhmeoelpdaaFa
import Derived.Test.YtibkmhmeoelpdaaFp
namespace Go.Proofs.Ytibkmhmeoelpdaa
open Go.RowKit
open Geo (H3)

def who1_0 : Oper :=
  { dst := some 3, op := Go.Op.load 29 (Go.Operand.tmp 1), type := 29, pos := "l11_admit.go:82", after := #[], guard := none }
def who1_1 : Oper :=
  { dst := some 4, op := Go.Op.call { callee := Go.Callee.value (Go.Operand.func 10), args := #[Go.Operand.tmp 3], argTypes := #[29] }, type := 4, pos := "l11_admit.go:82", after := #[{ on := 0, ground := Go.Ground.data }], guard := none }
def who1_2 : Oper :=
  { dst := some 5, op := Go.Op.unOp Go.UnOp.not 4 (Go.Operand.tmp 4), type := 4, pos := "l11_admit.go:82", after := #[{ on := 1, ground := Go.Ground.data }], guard := none }
def who1_3 : Oper :=
  { dst := some 6, op := Go.Op.move (Go.Operand.tmp 5), type := 4, pos := "l11_admit.go:82", after := #[{ on := 2, ground := Go.Ground.data }, { on := 1, ground := Go.Ground.chain }], guard := none }
def who1_4 : Oper :=
  { dst := some 7, op := Go.Op.fieldAddr 29 (Go.Operand.tmp 1) 0, type := 0, pos := "l11_admit.go:82", after := #[{ on := 3, ground := Go.Ground.guard }], guard := some (3, false) }
def who1_5 : Oper :=
  { dst := some 8, op := Go.Op.load 27 (Go.Operand.tmp 7), type := 27, pos := "l11_admit.go:82", after := #[{ on := 4, ground := Go.Ground.data }, { on := 3, ground := Go.Ground.guard }], guard := some (3, false) }
def who1_6 : Oper :=
  { dst := some 9, op := Go.Op.call { callee := Go.Callee.value (Go.Operand.func 39), args := #[Go.Operand.const (Go.Value.int Go.IntKind.i64 (-1000)), Go.Operand.const (Go.Value.int Go.IntKind.i64 1)], argTypes := #[3, 3] }, type := 27, pos := "l11_admit.go:82", after := #[{ on := 3, ground := Go.Ground.chain }, { on := 3, ground := Go.Ground.guard }], guard := some (3, false) }
def who1_7 : Oper :=
  { dst := some 10, op := Go.Op.call { callee := Go.Callee.value (Go.Operand.func 35), args := #[Go.Operand.tmp 8, Go.Operand.tmp 9], argTypes := #[27, 27] }, type := 3, pos := "l11_admit.go:82", after := #[{ on := 5, ground := Go.Ground.data }, { on := 6, ground := Go.Ground.data }, { on := 6, ground := Go.Ground.chain }, { on := 3, ground := Go.Ground.guard }], guard := some (3, false) }
def who1_8 : Oper :=
  { dst := some 11, op := Go.Op.binOp Go.BinOp.lss 3 (Go.Operand.tmp 10) (Go.Operand.const (Go.Value.int Go.IntKind.i64 0)) 3, type := 4, pos := "l11_admit.go:82", after := #[{ on := 7, ground := Go.Ground.data }, { on := 3, ground := Go.Ground.guard }], guard := some (3, false) }
def who1_9 : Oper :=
  { dst := some 12, op := Go.Op.pick (Go.Operand.tmp 6) (Go.Operand.const (Go.Value.bool true)) (Go.Operand.tmp 11), type := 4, pos := "l11_admit.go:82", after := #[{ on := 3, ground := Go.Ground.data }, { on := 8, ground := Go.Ground.data }], guard := none }
def who1_10 : Oper :=
  { dst := some 13, op := Go.Op.move (Go.Operand.tmp 12), type := 4, pos := "l11_admit.go:82", after := #[{ on := 9, ground := Go.Ground.data }, { on := 7, ground := Go.Ground.chain }], guard := none }
def who1_11 : Oper :=
  { dst := some 14, op := Go.Op.fieldAddr 29 (Go.Operand.tmp 1) 1, type := 0, pos := "l11_admit.go:82", after := #[{ on := 10, ground := Go.Ground.guard }], guard := some (10, false) }
def who1_12 : Oper :=
  { dst := some 15, op := Go.Op.load 27 (Go.Operand.tmp 14), type := 27, pos := "l11_admit.go:82", after := #[{ on := 11, ground := Go.Ground.data }, { on := 10, ground := Go.Ground.guard }], guard := some (10, false) }
def who1_13 : Oper :=
  { dst := some 16, op := Go.Op.call { callee := Go.Callee.value (Go.Operand.func 39), args := #[Go.Operand.const (Go.Value.int Go.IntKind.i64 1000), Go.Operand.const (Go.Value.int Go.IntKind.i64 1)], argTypes := #[3, 3] }, type := 27, pos := "l11_admit.go:82", after := #[{ on := 10, ground := Go.Ground.chain }, { on := 10, ground := Go.Ground.guard }], guard := some (10, false) }
def who1_14 : Oper :=
  { dst := some 17, op := Go.Op.call { callee := Go.Callee.value (Go.Operand.func 35), args := #[Go.Operand.tmp 15, Go.Operand.tmp 16], argTypes := #[27, 27] }, type := 3, pos := "l11_admit.go:82", after := #[{ on := 12, ground := Go.Ground.data }, { on := 13, ground := Go.Ground.data }, { on := 13, ground := Go.Ground.chain }, { on := 10, ground := Go.Ground.guard }], guard := some (10, false) }
def who1_15 : Oper :=
  { dst := some 18, op := Go.Op.binOp Go.BinOp.gtr 3 (Go.Operand.tmp 17) (Go.Operand.const (Go.Value.int Go.IntKind.i64 0)) 3, type := 4, pos := "l11_admit.go:82", after := #[{ on := 14, ground := Go.Ground.data }, { on := 10, ground := Go.Ground.guard }], guard := some (10, false) }
def who1_16 : Oper :=
  { dst := some 19, op := Go.Op.pick (Go.Operand.tmp 13) (Go.Operand.const (Go.Value.bool true)) (Go.Operand.tmp 18), type := 4, pos := "l11_admit.go:82", after := #[{ on := 10, ground := Go.Ground.data }, { on := 15, ground := Go.Ground.data }], guard := none }
def who3_0 : Oper :=
  { dst := some 20, op := Go.Op.fieldAddr 29 (Go.Operand.tmp 1) 1, type := 0, pos := "l11_admit.go:85", after := #[], guard := none }
def who3_1 : Oper :=
  { dst := some 21, op := Go.Op.load 27 (Go.Operand.tmp 20), type := 27, pos := "l11_admit.go:85", after := #[{ on := 0, ground := Go.Ground.data }], guard := none }
def who3_2 : Oper :=
  { dst := some 22, op := Go.Op.call { callee := Go.Callee.value (Go.Operand.func 41), args := #[Go.Operand.tmp 21], argTypes := #[27] }, type := 3, pos := "l11_admit.go:85", after := #[{ on := 1, ground := Go.Ground.data }], guard := none }
def who3_3 : Oper :=
  { dst := some 23, op := Go.Op.fieldAddr 29 (Go.Operand.tmp 1) 0, type := 0, pos := "l11_admit.go:85", after := #[], guard := none }
def who3_4 : Oper :=
  { dst := some 24, op := Go.Op.load 27 (Go.Operand.tmp 23), type := 27, pos := "l11_admit.go:85", after := #[{ on := 3, ground := Go.Ground.data }], guard := none }
def who3_5 : Oper :=
  { dst := some 25, op := Go.Op.call { callee := Go.Callee.value (Go.Operand.func 40), args := #[Go.Operand.tmp 24], argTypes := #[27] }, type := 3, pos := "l11_admit.go:85", after := #[{ on := 4, ground := Go.Ground.data }, { on := 2, ground := Go.Ground.chain }], guard := none }
def who3_6 : Oper :=
  { dst := some 26, op := Go.Op.binOp Go.BinOp.sub 3 (Go.Operand.tmp 22) (Go.Operand.tmp 25) 3, type := 3, pos := "l11_admit.go:85", after := #[{ on := 2, ground := Go.Ground.data }, { on := 5, ground := Go.Ground.data }], guard := none }
def who3_7 : Oper :=
  { dst := some 27, op := Go.Op.binOp Go.BinOp.add 3 (Go.Operand.tmp 26) (Go.Operand.const (Go.Value.int Go.IntKind.i64 1)) 3, type := 3, pos := "l11_admit.go:85", after := #[{ on := 6, ground := Go.Ground.data }], guard := none }
def who3_8 : Oper :=
  { dst := some 28, op := Go.Op.call { callee := Go.Callee.builtin Go.Builtin.max, args := #[Go.Operand.const (Go.Value.int Go.IntKind.i64 0), Go.Operand.tmp 27], argTypes := #[3, 3] }, type := 3, pos := "l11_admit.go:85", after := #[{ on := 7, ground := Go.Ground.data }], guard := none }
def who3_9 : Oper :=
  { dst := some 2, op := Go.Op.assign (Go.Operand.tmp 28), type := 3, pos := "l11_admit.go:85", after := #[{ on := 8, ground := Go.Ground.data }, { on := 5, ground := Go.Ground.chain }, { on := 0, ground := Go.Ground.phase }, { on := 1, ground := Go.Ground.phase }, { on := 2, ground := Go.Ground.phase }, { on := 3, ground := Go.Ground.phase }, { on := 4, ground := Go.Ground.phase }, { on := 5, ground := Go.Ground.phase }, { on := 6, ground := Go.Ground.phase }, { on := 7, ground := Go.Ground.phase }, { on := 8, ground := Go.Ground.phase }], guard := none }
/-- how many whole inputs a span has -/
def whoP (a b c d : Int) : Int := if spnB a b c d = true ∧ ¬ cmpR a b (-1000) 1 < 0 ∧ ¬ 0 < cmpR c d 1000 1 then max 0 (floR c d - ceiR a b + 1) else 0
theorem who_no {a b c d : Int} (h : ¬ (spnB a b c d = true ∧ ¬ cmpR a b (-1000) 1 < 0 ∧ ¬ 0 < cmpR c d 1000 1)) : whoP a b c d = 0 := by unfold whoP; rw [if_neg h]
theorem who_yes {a b c d : Int} (h : spnB a b c d = true) (k : ¬ cmpR a b (-1000) 1 < 0) (l : ¬ 0 < cmpR c d 1000 1) : whoP a b c d = max 0 (floR c d - ceiR a b + 1) := by unfold whoP; rw [if_pos ⟨h, k, l⟩]
theorem keep4 {V X : World} {B : Nat} {a0 a1 a2 a3 : Value} {T : TypeId} (h : Blk V B #[a0, a1, a2, a3] T) (hb : Below V.heap.size V X) :
    X.cell? ⟨B, 0, none⟩ = some a0 ∧ X.cell? ⟨B, 1, none⟩ = some a1 ∧ X.cell? ⟨B, 2, none⟩ = some a2 ∧ X.cell? ⟨B, 3, none⟩ = some a3 :=
  ⟨(h.to hb).cell0 rfl, (h.to hb).cell0 rfl, (h.to hb).cell0 rfl, (h.to hb).cell0 rfl⟩
set_option maxRecDepth 20000 in
set_option maxHeartbeats 8000000 in
theorem spec_who (a b c d : Int) (w : World) (ha : I64 a) (hb : I64 b) (hc : I64 c) (hd : I64 d) :
    Calls Try.prog 22 #[.agg #[.int .i64 a, .int .i64 b, .int .i64 c, .int .i64 d]] w fun e w' => e = .returned (.int .i64 (whoP a b c d)) ∧ Below w.heap.size w w' := by
  have bV := below_one w (.cells #[.int .i64 a, .int .i64 b, .int .i64 c, .int .i64 d] 29)
  have K0 := blk_new w #[.int .i64 a, .int .i64 b, .int .i64 c, .int .i64 d] 29 (b := w.heap.size) (by simp)
  have H1 := Lib.hid (fun V => spec_spn a b c d V ha hb hc hd)
  have O1 := Lib.hid (fun V => spec_ofA (-1000) 1 V (by omega) (by omega) (by omega) (by omega))
  rw [(one_of (n := -1000) (by omega)).1, (one_of (n := -1000) (by omega)).2.1] at O1
  have O2 := Lib.hid (fun V => spec_ofA 1000 1 V (by omega) (by omega) (by omega) (by omega))
  rw [(one_of (n := 1000) (by omega)).1, (one_of (n := 1000) (by omega)).2.1] at O2
  have E1 := Lib.hid (fun h : okR a b = true => cmpO_of h (one_of (n := -1000) (by omega)).2.2)
  have E2 := Lib.hid (fun h : okR c d = true => cmpO_of h (one_of (n := 1000) (by omega)).2.2)
  have C1 := Lib.hid (fun V => spec_cmp a b (-1000) 1 V ha.1 ha.2 hb.1 hb.2 (by omega) (by omega) (by omega) (by omega))
  have C2 := Lib.hid (fun V => spec_cmp c d 1000 1 V hc.1 hc.2 hd.1 hd.2 (by omega) (by omega) (by omega) (by omega))
  have H3 := Lib.hid (fun V => spec_ceilR a b V ha.1 ha.2 hb.1 hb.2)
  have H4 := Lib.hid (fun V => spec_floorR c d V hc.1 hc.2 hd.1 hd.2)
  have hok := Lib.hid (fun h : spnB a b c d = true => spn_ok h)
  have N1 := Lib.hid (fun h => who_no (a := a) (b := b) (c := c) (d := d) h)
  have N2 := Lib.hid (fun h k l => who_yes (a := a) (b := b) (c := c) (d := d) h k l)
  have hi1 := Lib.hid (fun h : okR a b = true => cei_in h)
  have hi2 := Lib.hid (fun h : okR c d = true => flo_in h)
  have hb1 := cmpR_bounds a b (-1000) 1
  have hb2 := cmpR_bounds c d 1000 1
  clear ha hb hc hd
  generalize cmpR a b (-1000) 1 = r1 at *
  generalize cmpR c d 1000 1 = r2 at *
  generalize cmpO a b (-1000) 1 = x1 at *
  generalize cmpO c d 1000 1 = x2 at *
  generalize ceiR a b = lo at *
  generalize floR c d = hi at *
  generalize whoP a b c d = ans at *
  generalize hsp : spnB a b c d = sp at *
  obtain ⟨g1, hg1⟩ : ∃ g, decide (r1 < 0) = g := ⟨_, rfl⟩
  obtain ⟨g2, hg2⟩ : ∃ g, decide (0 < r2) = g := ⟨_, rfl⟩
  go_enter Try.func22, Try.ntmps22
  go_wp2_with fail
  generalize (w.alloc (.cells #[.int .i64 a, .int .i64 b, .int .i64 c, .int .i64 d] 29)) = V at *
  refine wp_region_held_drew (S := (fun w' => w'.cell? ⟨w.heap.size, 0, none⟩ = some (.int .i64 a) ∧ w'.cell? ⟨w.heap.size, 1, none⟩ = some (.int .i64 b) ∧ w'.cell? ⟨w.heap.size, 2, none⟩ = some (.int .i64 c) ∧ w'.cell? ⟨w.heap.size, 3, none⟩ = some (.int .i64 d))) (by kernel_rfl) ?_ (fun hHeld => ?_)
  · (refine keep4 K0 ?_; repeat (first | exact Below.refl _ _ | refine below_drw ?_ | refine below_to ?_ (by assumption)))
  refine wpAnyH_take (i := 0) (oi := who1_0) (v := ?_) rfl (by as_aux_lemma => kernel_rfl) (by as_aux_lemma => kernel_rfl) (by as_aux_lemma => kernel_rfl) (fun _ _ _ h => h) (Or.inl ⟨by rfl, ?_⟩) (by assumption) ?_
  rotate_left
  · unfold who1_0; intro w hSw; (try dsimp only at hSw); go_simp; try (with_reducible rfl)
  try simp only [who1_0, Act.put, List.setIfInBounds_toArray, List.set_cons_zero, List.set_cons_succ]
  refine wpAnyH_ready (rs := [1]) (by as_aux_lemma => kernel_rfl) (by simp) ?_
  refine AllReadyH.cons (o := who1_1) rfl (fun K hK => ?_) AllReadyH.nil
  unfold who1_1
  go_simp
  (go_at_call 10; (with_reducible refine (H1.out _).mono ?_); rintro e v1 ⟨rfl, bl1⟩)
  try go_wp2_with fail
  refine hK.out _ _ ?_ (fun hHeld2 => ?_)
  · (refine keep4 K0 ?_; repeat (first | exact Below.refl _ _ | refine below_drw ?_ | refine below_to ?_ (by assumption)))
  clear hK K hHeld
  have hHeld := hHeld2
  clear hHeld2
  try simp only [who1_1, Act.put, List.setIfInBounds_toArray, List.set_cons_zero, List.set_cons_succ]
  as_aux_lemma =>
   refine wpAnyH_take (i := 2) (oi := who1_2) (v := ?_) rfl (by as_aux_lemma => kernel_rfl) (by as_aux_lemma => kernel_rfl) (by as_aux_lemma => kernel_rfl) (fun _ _ _ h => h) (Or.inl ⟨by rfl, ?_⟩) (by assumption) ?_
   rotate_left
   · unfold who1_2; intro w hSw; (try dsimp only at hSw); go_simp; try (with_reducible rfl)
   try simp only [who1_2, Act.put, List.setIfInBounds_toArray, List.set_cons_zero, List.set_cons_succ]
   refine wpAnyH_take (i := 3) (oi := who1_3) (v := ?_) rfl (by as_aux_lemma => kernel_rfl) (by as_aux_lemma => kernel_rfl) (by as_aux_lemma => kernel_rfl) (fun _ _ _ h => h) (Or.inl ⟨by rfl, ?_⟩) (by assumption) ?_
   rotate_left
   · unfold who1_3; intro w hSw; (try dsimp only at hSw); go_simp; try (with_reducible rfl)
   try simp only [who1_3, Act.put, List.setIfInBounds_toArray, List.set_cons_zero, List.set_cons_succ]
   cases sp with
   | false =>
    as_aux_lemma =>
     refine wpAnyH_take (i := 4) (oi := who1_4) (v := undef) rfl (by as_aux_lemma => kernel_rfl) (by as_aux_lemma => kernel_rfl) (by as_aux_lemma => kernel_rfl) (fun _ _ _ h => h) (Or.inr ⟨by rfl, rfl⟩) (by assumption) ?_
     try simp only [who1_4, Act.put, List.setIfInBounds_toArray, List.set_cons_zero, List.set_cons_succ]
     refine wpAnyH_take (i := 5) (oi := who1_5) (v := undef) rfl (by as_aux_lemma => kernel_rfl) (by as_aux_lemma => kernel_rfl) (by as_aux_lemma => kernel_rfl) (fun _ _ _ h => h) (Or.inr ⟨by rfl, rfl⟩) (by assumption) ?_
     try simp only [who1_5, Act.put, List.setIfInBounds_toArray, List.set_cons_zero, List.set_cons_succ]
     refine wpAnyH_take (i := 6) (oi := who1_6) (v := undef) rfl (by as_aux_lemma => kernel_rfl) (by as_aux_lemma => kernel_rfl) (by as_aux_lemma => kernel_rfl) (fun _ _ _ h => h) (Or.inr ⟨by rfl, rfl⟩) (by assumption) ?_
     try simp only [who1_6, Act.put, List.setIfInBounds_toArray, List.set_cons_zero, List.set_cons_succ]
     refine wpAnyH_take (i := 7) (oi := who1_7) (v := undef) rfl (by as_aux_lemma => kernel_rfl) (by as_aux_lemma => kernel_rfl) (by as_aux_lemma => kernel_rfl) (fun _ _ _ h => h) (Or.inr ⟨by rfl, rfl⟩) (by assumption) ?_
     try simp only [who1_7, Act.put, List.setIfInBounds_toArray, List.set_cons_zero, List.set_cons_succ]
     refine wpAnyH_take (i := 8) (oi := who1_8) (v := undef) rfl (by as_aux_lemma => kernel_rfl) (by as_aux_lemma => kernel_rfl) (by as_aux_lemma => kernel_rfl) (fun _ _ _ h => h) (Or.inr ⟨by rfl, rfl⟩) (by assumption) ?_
     try simp only [who1_8, Act.put, List.setIfInBounds_toArray, List.set_cons_zero, List.set_cons_succ]
     refine wpAnyH_take (i := 9) (oi := who1_9) (v := ?_) rfl (by as_aux_lemma => kernel_rfl) (by as_aux_lemma => kernel_rfl) (by as_aux_lemma => kernel_rfl) (fun _ _ _ h => h) (Or.inl ⟨by rfl, ?_⟩) (by assumption) ?_
     rotate_left
     · unfold who1_9; intro w hSw; (try dsimp only at hSw); go_simp; try (with_reducible rfl)
     try simp only [who1_9, Act.put, List.setIfInBounds_toArray, List.set_cons_zero, List.set_cons_succ]
     refine wpAnyH_take (i := 10) (oi := who1_10) (v := ?_) rfl (by as_aux_lemma => kernel_rfl) (by as_aux_lemma => kernel_rfl) (by as_aux_lemma => kernel_rfl) (fun _ _ _ h => h) (Or.inl ⟨by rfl, ?_⟩) (by assumption) ?_
     rotate_left
     · unfold who1_10; intro w hSw; (try dsimp only at hSw); go_simp; try (with_reducible rfl)
     try simp only [who1_10, Act.put, List.setIfInBounds_toArray, List.set_cons_zero, List.set_cons_succ]
     refine wpAnyH_take (i := 11) (oi := who1_11) (v := undef) rfl (by as_aux_lemma => kernel_rfl) (by as_aux_lemma => kernel_rfl) (by as_aux_lemma => kernel_rfl) (fun _ _ _ h => h) (Or.inr ⟨by rfl, rfl⟩) (by assumption) ?_
     try simp only [who1_11, Act.put, List.setIfInBounds_toArray, List.set_cons_zero, List.set_cons_succ]
     refine wpAnyH_take (i := 12) (oi := who1_12) (v := undef) rfl (by as_aux_lemma => kernel_rfl) (by as_aux_lemma => kernel_rfl) (by as_aux_lemma => kernel_rfl) (fun _ _ _ h => h) (Or.inr ⟨by rfl, rfl⟩) (by assumption) ?_
     try simp only [who1_12, Act.put, List.setIfInBounds_toArray, List.set_cons_zero, List.set_cons_succ]
     refine wpAnyH_take (i := 13) (oi := who1_13) (v := undef) rfl (by as_aux_lemma => kernel_rfl) (by as_aux_lemma => kernel_rfl) (by as_aux_lemma => kernel_rfl) (fun _ _ _ h => h) (Or.inr ⟨by rfl, rfl⟩) (by assumption) ?_
     try simp only [who1_13, Act.put, List.setIfInBounds_toArray, List.set_cons_zero, List.set_cons_succ]
     refine wpAnyH_take (i := 14) (oi := who1_14) (v := undef) rfl (by as_aux_lemma => kernel_rfl) (by as_aux_lemma => kernel_rfl) (by as_aux_lemma => kernel_rfl) (fun _ _ _ h => h) (Or.inr ⟨by rfl, rfl⟩) (by assumption) ?_
     try simp only [who1_14, Act.put, List.setIfInBounds_toArray, List.set_cons_zero, List.set_cons_succ]
     refine wpAnyH_take (i := 15) (oi := who1_15) (v := undef) rfl (by as_aux_lemma => kernel_rfl) (by as_aux_lemma => kernel_rfl) (by as_aux_lemma => kernel_rfl) (fun _ _ _ h => h) (Or.inr ⟨by rfl, rfl⟩) (by assumption) ?_
     try simp only [who1_15, Act.put, List.setIfInBounds_toArray, List.set_cons_zero, List.set_cons_succ]
     refine wpAnyH_take (i := 16) (oi := who1_16) (v := ?_) rfl (by as_aux_lemma => kernel_rfl) (by as_aux_lemma => kernel_rfl) (by as_aux_lemma => kernel_rfl) (fun _ _ _ h => h) (Or.inl ⟨by rfl, ?_⟩) (by assumption) ?_
     rotate_left
     · unfold who1_16; intro w hSw; (try dsimp only at hSw); go_simp; try (with_reducible rfl)
     try simp only [who1_16, Act.put, List.setIfInBounds_toArray, List.set_cons_zero, List.set_cons_succ]
     refine wpAnyH_done (by kernel_rfl) ?_ _
     go_wp2_with fail
     go_ret
     refine ⟨ret_int (N1.out (fun h => by first | (exfalso; simp at h; done) | (have := of_decide_eq_true hg1; omega))).symm, ?_⟩
     (repeat (first | exact bV | refine below_drw ?_ | refine below_to ?_ (by assumption)))
   | true =>
    as_aux_lemma =>
     refine wpAnyH_take (i := 4) (oi := who1_4) (v := ?_) rfl (by as_aux_lemma => kernel_rfl) (by as_aux_lemma => kernel_rfl) (by as_aux_lemma => kernel_rfl) (fun _ _ _ h => h) (Or.inl ⟨by rfl, ?_⟩) (by assumption) ?_
     rotate_left
     · unfold who1_4; intro w hSw; (try dsimp only at hSw); go_simp; try (with_reducible rfl)
     try simp only [who1_4, Act.put, List.setIfInBounds_toArray, List.set_cons_zero, List.set_cons_succ]
     refine wpAnyH_take (i := 5) (oi := who1_5) (v := ?_) rfl (by as_aux_lemma => kernel_rfl) (by as_aux_lemma => kernel_rfl) (by as_aux_lemma => kernel_rfl) (fun _ _ _ h => h) (Or.inl ⟨by rfl, ?_⟩) (by assumption) ?_
     rotate_left
     · unfold who1_5; intro w hSw; (try dsimp only at hSw); go_simp; try (with_reducible rfl)
     try simp only [who1_5, Act.put, List.setIfInBounds_toArray, List.set_cons_zero, List.set_cons_succ]
     refine wpAnyH_ready (rs := [6]) (by as_aux_lemma => kernel_rfl) (by simp) ?_
     refine AllReadyH.cons (o := who1_6) rfl (fun K hK => ?_) AllReadyH.nil
     unfold who1_6
     go_simp
     (go_at_call 39; (with_reducible refine (O1.out _).mono ?_); rintro e v2 ⟨rfl, bl2⟩)
     try go_wp2_with fail
     refine hK.out _ _ ?_ (fun hHeld2 => ?_)
     · (refine keep4 K0 ?_; repeat (first | exact Below.refl _ _ | refine below_drw ?_ | refine below_to ?_ (by assumption)))
     clear hK K hHeld
     have hHeld := hHeld2
     clear hHeld2
     try simp only [who1_6, Act.put, List.setIfInBounds_toArray, List.set_cons_zero, List.set_cons_succ]
     as_aux_lemma =>
      refine wpAnyH_ready (rs := [7]) (by as_aux_lemma => kernel_rfl) (by simp) ?_
      refine AllReadyH.cons (o := who1_7) rfl (fun K hK => ?_) AllReadyH.nil
      unfold who1_7
      go_simp
      (go_at_call 35; (with_reducible refine (C1.out _).mono ?_); rintro e v3 ⟨rfl, bl3⟩; have ee := E1.out (hok.out (by simp)).1; subst ee)
      try go_wp2_with fail
      refine hK.out _ _ ?_ (fun hHeld2 => ?_)
      · (refine keep4 K0 ?_; repeat (first | exact Below.refl _ _ | refine below_drw ?_ | refine below_to ?_ (by assumption)))
      clear hK K hHeld
      have hHeld := hHeld2
      clear hHeld2
      try simp only [who1_7, Act.put, List.setIfInBounds_toArray, List.set_cons_zero, List.set_cons_succ]
      as_aux_lemma =>
       refine wpAnyH_take (i := 8) (oi := who1_8) (v := ?_) rfl (by as_aux_lemma => kernel_rfl) (by as_aux_lemma => kernel_rfl) (by as_aux_lemma => kernel_rfl) (fun _ _ _ h => h) (Or.inl ⟨by rfl, ?_⟩) (by assumption) ?_
       rotate_left
       · unfold who1_8; intro w hSw; (try dsimp only at hSw); go_simp; try (with_reducible rfl)
       try simp only [who1_8, Act.put, List.setIfInBounds_toArray, List.set_cons_zero, List.set_cons_succ]
       refine wpAnyH_take (i := 9) (oi := who1_9) (v := ?_) rfl (by as_aux_lemma => kernel_rfl) (by as_aux_lemma => kernel_rfl) (by as_aux_lemma => kernel_rfl) (fun _ _ _ h => h) (Or.inl ⟨by rfl, ?_⟩) (by assumption) ?_
       rotate_left
       · unfold who1_9; intro w hSw; (try dsimp only at hSw); go_simp; try (with_reducible rfl)
       try simp only [who1_9, Act.put, List.setIfInBounds_toArray, List.set_cons_zero, List.set_cons_succ]
       refine wpAnyH_take (i := 10) (oi := who1_10) (v := ?_) rfl (by as_aux_lemma => kernel_rfl) (by as_aux_lemma => kernel_rfl) (by as_aux_lemma => kernel_rfl) (fun _ _ _ h => h) (Or.inl ⟨by rfl, ?_⟩) (by assumption) ?_
       rotate_left
       · unfold who1_10; intro w hSw; (try dsimp only at hSw); go_simp; try (with_reducible rfl)
       try simp only [who1_10, Act.put, List.setIfInBounds_toArray, List.set_cons_zero, List.set_cons_succ]
       try simp only [hg1]
       cases g1 with
       | true =>
        as_aux_lemma =>
         refine wpAnyH_take (i := 11) (oi := who1_11) (v := undef) rfl (by as_aux_lemma => kernel_rfl) (by as_aux_lemma => kernel_rfl) (by as_aux_lemma => kernel_rfl) (fun _ _ _ h => h) (Or.inr ⟨by rfl, rfl⟩) (by assumption) ?_
         try simp only [who1_11, Act.put, List.setIfInBounds_toArray, List.set_cons_zero, List.set_cons_succ]
         refine wpAnyH_take (i := 12) (oi := who1_12) (v := undef) rfl (by as_aux_lemma => kernel_rfl) (by as_aux_lemma => kernel_rfl) (by as_aux_lemma => kernel_rfl) (fun _ _ _ h => h) (Or.inr ⟨by rfl, rfl⟩) (by assumption) ?_
         try simp only [who1_12, Act.put, List.setIfInBounds_toArray, List.set_cons_zero, List.set_cons_succ]
         refine wpAnyH_take (i := 13) (oi := who1_13) (v := undef) rfl (by as_aux_lemma => kernel_rfl) (by as_aux_lemma => kernel_rfl) (by as_aux_lemma => kernel_rfl) (fun _ _ _ h => h) (Or.inr ⟨by rfl, rfl⟩) (by assumption) ?_
         try simp only [who1_13, Act.put, List.setIfInBounds_toArray, List.set_cons_zero, List.set_cons_succ]
         refine wpAnyH_take (i := 14) (oi := who1_14) (v := undef) rfl (by as_aux_lemma => kernel_rfl) (by as_aux_lemma => kernel_rfl) (by as_aux_lemma => kernel_rfl) (fun _ _ _ h => h) (Or.inr ⟨by rfl, rfl⟩) (by assumption) ?_
         try simp only [who1_14, Act.put, List.setIfInBounds_toArray, List.set_cons_zero, List.set_cons_succ]
         refine wpAnyH_take (i := 15) (oi := who1_15) (v := undef) rfl (by as_aux_lemma => kernel_rfl) (by as_aux_lemma => kernel_rfl) (by as_aux_lemma => kernel_rfl) (fun _ _ _ h => h) (Or.inr ⟨by rfl, rfl⟩) (by assumption) ?_
         try simp only [who1_15, Act.put, List.setIfInBounds_toArray, List.set_cons_zero, List.set_cons_succ]
         refine wpAnyH_take (i := 16) (oi := who1_16) (v := ?_) rfl (by as_aux_lemma => kernel_rfl) (by as_aux_lemma => kernel_rfl) (by as_aux_lemma => kernel_rfl) (fun _ _ _ h => h) (Or.inl ⟨by rfl, ?_⟩) (by assumption) ?_
         rotate_left
         · unfold who1_16; intro w hSw; (try dsimp only at hSw); go_simp; try (with_reducible rfl)
         try simp only [who1_16, Act.put, List.setIfInBounds_toArray, List.set_cons_zero, List.set_cons_succ]
         refine wpAnyH_done (by kernel_rfl) ?_ _
         go_wp2_with fail
         go_ret
         refine ⟨ret_int (N1.out (fun h => by first | (exfalso; simp at h; done) | (have := of_decide_eq_true hg1; omega))).symm, ?_⟩
         (repeat (first | exact bV | refine below_drw ?_ | refine below_to ?_ (by assumption)))
       | false =>
        as_aux_lemma =>
         refine wpAnyH_take (i := 11) (oi := who1_11) (v := ?_) rfl (by as_aux_lemma => kernel_rfl) (by as_aux_lemma => kernel_rfl) (by as_aux_lemma => kernel_rfl) (fun _ _ _ h => h) (Or.inl ⟨by rfl, ?_⟩) (by assumption) ?_
         rotate_left
         · unfold who1_11; intro w hSw; (try dsimp only at hSw); go_simp; try (with_reducible rfl)
         try simp only [who1_11, Act.put, List.setIfInBounds_toArray, List.set_cons_zero, List.set_cons_succ]
         refine wpAnyH_take (i := 12) (oi := who1_12) (v := ?_) rfl (by as_aux_lemma => kernel_rfl) (by as_aux_lemma => kernel_rfl) (by as_aux_lemma => kernel_rfl) (fun _ _ _ h => h) (Or.inl ⟨by rfl, ?_⟩) (by assumption) ?_
         rotate_left
         · unfold who1_12; intro w hSw; (try dsimp only at hSw); go_simp; try (with_reducible rfl)
         try simp only [who1_12, Act.put, List.setIfInBounds_toArray, List.set_cons_zero, List.set_cons_succ]
         refine wpAnyH_ready (rs := [13]) (by as_aux_lemma => kernel_rfl) (by simp) ?_
         refine AllReadyH.cons (o := who1_13) rfl (fun K hK => ?_) AllReadyH.nil
         unfold who1_13
         go_simp
         (go_at_call 39; (with_reducible refine (O2.out _).mono ?_); rintro e v4 ⟨rfl, bl4⟩)
         try go_wp2_with fail
         refine hK.out _ _ ?_ (fun hHeld2 => ?_)
         · (refine keep4 K0 ?_; repeat (first | exact Below.refl _ _ | refine below_drw ?_ | refine below_to ?_ (by assumption)))
         clear hK K hHeld
         have hHeld := hHeld2
         clear hHeld2
         try simp only [who1_13, Act.put, List.setIfInBounds_toArray, List.set_cons_zero, List.set_cons_succ]
         as_aux_lemma =>
          refine wpAnyH_ready (rs := [14]) (by as_aux_lemma => kernel_rfl) (by simp) ?_
          refine AllReadyH.cons (o := who1_14) rfl (fun K hK => ?_) AllReadyH.nil
          unfold who1_14
          go_simp
          (go_at_call 35; (with_reducible refine (C2.out _).mono ?_); rintro e v5 ⟨rfl, bl5⟩; have ee := E2.out (hok.out (by simp)).2.1; subst ee)
          try go_wp2_with fail
          refine hK.out _ _ ?_ (fun hHeld2 => ?_)
          · (refine keep4 K0 ?_; repeat (first | exact Below.refl _ _ | refine below_drw ?_ | refine below_to ?_ (by assumption)))
          clear hK K hHeld
          have hHeld := hHeld2
          clear hHeld2
          try simp only [who1_14, Act.put, List.setIfInBounds_toArray, List.set_cons_zero, List.set_cons_succ]
          as_aux_lemma =>
           refine wpAnyH_take (i := 15) (oi := who1_15) (v := ?_) rfl (by as_aux_lemma => kernel_rfl) (by as_aux_lemma => kernel_rfl) (by as_aux_lemma => kernel_rfl) (fun _ _ _ h => h) (Or.inl ⟨by rfl, ?_⟩) (by assumption) ?_
           rotate_left
           · unfold who1_15; intro w hSw; (try dsimp only at hSw); go_simp; try (with_reducible rfl)
           try simp only [who1_15, Act.put, List.setIfInBounds_toArray, List.set_cons_zero, List.set_cons_succ]
           refine wpAnyH_take (i := 16) (oi := who1_16) (v := ?_) rfl (by as_aux_lemma => kernel_rfl) (by as_aux_lemma => kernel_rfl) (by as_aux_lemma => kernel_rfl) (fun _ _ _ h => h) (Or.inl ⟨by rfl, ?_⟩) (by assumption) ?_
           rotate_left
           · unfold who1_16; intro w hSw; (try dsimp only at hSw); go_simp; try (with_reducible rfl)
           try simp only [who1_16, Act.put, List.setIfInBounds_toArray, List.set_cons_zero, List.set_cons_succ]
           refine wpAnyH_done (by kernel_rfl) ?_ _
           have K1 := K0.to (show Below _ _ v5 by repeat (first | exact Below.refl _ _ | refine below_drw ?_ | refine below_to ?_ (by assumption)))
           have b5 : Below w.heap.size w v5 := by (repeat (first | exact bV | refine below_drw ?_ | refine below_to ?_ (by assumption)))
           clear K0 bV bl1 bl2 bl3 bl4 bl5 hHeld
           have hi1 := hi1.out (hok.out (by simp)).1
           have hi2 := hi2.out (hok.out (by simp)).2.1
           rcases (show g2 = true ∨ g2 = false by cases g2 <;> simp) with rfl | rfl
           · go_wp2_with fail
             go_ret
             exact ⟨ret_int (N1.out (fun h => by have := of_decide_eq_true hg2; omega)).symm, b5⟩
           have HN := Lib.hid (N2.out (by simp) (by have := of_decide_eq_false hg1; omega) (by have := of_decide_eq_false hg2; omega))
           clear N1 N2
           go_wp2_with fail
           refine wp_region_held_drew (S := (fun w' => w'.cell? ⟨w.heap.size, 0, none⟩ = some (.int .i64 a) ∧ w'.cell? ⟨w.heap.size, 1, none⟩ = some (.int .i64 b) ∧ w'.cell? ⟨w.heap.size, 2, none⟩ = some (.int .i64 c) ∧ w'.cell? ⟨w.heap.size, 3, none⟩ = some (.int .i64 d))) (by kernel_rfl) ?_ (fun hHeld => ?_)
           · (refine keep4 K1 ?_; repeat (first | exact Below.refl _ _ | refine below_drw ?_ | refine below_to ?_ (by assumption)))
           refine wpAnyH_take (i := 0) (oi := who3_0) (v := ?_) rfl (by as_aux_lemma => kernel_rfl) (by as_aux_lemma => kernel_rfl) (by as_aux_lemma => kernel_rfl) (fun _ _ _ h => h) (Or.inl ⟨by rfl, ?_⟩) (by assumption) ?_
           rotate_left
           · unfold who3_0; intro w hSw; (try dsimp only at hSw); go_simp; try (with_reducible rfl)
           try simp only [who3_0, Act.put, List.setIfInBounds_toArray, List.set_cons_zero, List.set_cons_succ]
           refine wpAnyH_take (i := 1) (oi := who3_1) (v := ?_) rfl (by as_aux_lemma => kernel_rfl) (by as_aux_lemma => kernel_rfl) (by as_aux_lemma => kernel_rfl) (fun _ _ _ h => h) (Or.inl ⟨by rfl, ?_⟩) (by assumption) ?_
           rotate_left
           · unfold who3_1; intro w hSw; (try dsimp only at hSw); go_simp; try (with_reducible rfl)
           try simp only [who3_1, Act.put, List.setIfInBounds_toArray, List.set_cons_zero, List.set_cons_succ]
           refine wpAnyH_take (i := 3) (oi := who3_3) (v := ?_) rfl (by as_aux_lemma => kernel_rfl) (by as_aux_lemma => kernel_rfl) (by as_aux_lemma => kernel_rfl) (fun _ _ _ h => h) (Or.inl ⟨by rfl, ?_⟩) (by assumption) ?_
           rotate_left
           · unfold who3_3; intro w hSw; (try dsimp only at hSw); go_simp; try (with_reducible rfl)
           try simp only [who3_3, Act.put, List.setIfInBounds_toArray, List.set_cons_zero, List.set_cons_succ]
           refine wpAnyH_take (i := 4) (oi := who3_4) (v := ?_) rfl (by as_aux_lemma => kernel_rfl) (by as_aux_lemma => kernel_rfl) (by as_aux_lemma => kernel_rfl) (fun _ _ _ h => h) (Or.inl ⟨by rfl, ?_⟩) (by assumption) ?_
           rotate_left
           · unfold who3_4; intro w hSw; (try dsimp only at hSw); go_simp; try (with_reducible rfl)
           try simp only [who3_4, Act.put, List.setIfInBounds_toArray, List.set_cons_zero, List.set_cons_succ]
           refine wpAnyH_ready (rs := [2]) (by as_aux_lemma => kernel_rfl) (by simp) ?_
           refine AllReadyH.cons (o := who3_2) rfl (fun K hK => ?_) AllReadyH.nil
           unfold who3_2
           go_simp
           (go_at_call 41; (with_reducible refine (H4.out _).mono ?_); rintro e v6 ⟨rfl, bl6⟩)
           try go_wp2_with fail
           refine hK.out _ _ ?_ (fun hHeld2 => ?_)
           · (refine keep4 K1 ?_; repeat (first | exact Below.refl _ _ | refine below_drw ?_ | refine below_to ?_ (by assumption)))
           clear hK K hHeld
           have hHeld := hHeld2
           clear hHeld2
           try simp only [who3_2, Act.put, List.setIfInBounds_toArray, List.set_cons_zero, List.set_cons_succ]
           as_aux_lemma =>
            refine wpAnyH_ready (rs := [5]) (by as_aux_lemma => kernel_rfl) (by simp) ?_
            refine AllReadyH.cons (o := who3_5) rfl (fun K hK => ?_) AllReadyH.nil
            unfold who3_5
            go_simp
            (go_at_call 40; (with_reducible refine (H3.out _).mono ?_); rintro e v7 ⟨rfl, bl7⟩)
            try go_wp2_with fail
            refine hK.out _ _ ?_ (fun hHeld2 => ?_)
            · (refine keep4 K1 ?_; repeat (first | exact Below.refl _ _ | refine below_drw ?_ | refine below_to ?_ (by assumption)))
            clear hK K hHeld
            have hHeld := hHeld2
            clear hHeld2
            try simp only [who3_5, Act.put, List.setIfInBounds_toArray, List.set_cons_zero, List.set_cons_succ]
            as_aux_lemma =>
             refine wpAnyH_take (i := 6) (oi := who3_6) (v := ?_) rfl (by as_aux_lemma => kernel_rfl) (by as_aux_lemma => kernel_rfl) (by as_aux_lemma => kernel_rfl) (fun _ _ _ h => h) (Or.inl ⟨by rfl, ?_⟩) (by assumption) ?_
             rotate_left
             · unfold who3_6; intro w hSw; (try dsimp only at hSw); go_simp; try (with_reducible rfl)
             try simp only [who3_6, Act.put, List.setIfInBounds_toArray, List.set_cons_zero, List.set_cons_succ]
             refine wpAnyH_take (i := 7) (oi := who3_7) (v := ?_) rfl (by as_aux_lemma => kernel_rfl) (by as_aux_lemma => kernel_rfl) (by as_aux_lemma => kernel_rfl) (fun _ _ _ h => h) (Or.inl ⟨by rfl, ?_⟩) (by assumption) ?_
             rotate_left
             · unfold who3_7; intro w hSw; (try dsimp only at hSw); go_simp; try (with_reducible rfl)
             try simp only [who3_7, Act.put, List.setIfInBounds_toArray, List.set_cons_zero, List.set_cons_succ]
             refine wpAnyH_take (i := 8) (oi := who3_8) (v := ?_) rfl (by as_aux_lemma => kernel_rfl) (by as_aux_lemma => kernel_rfl) (by as_aux_lemma => kernel_rfl) (fun _ _ _ h => h) (Or.inl ⟨by rfl, ?_⟩) (by assumption) ?_
             rotate_left
             · unfold who3_8; intro w hSw; (try dsimp only at hSw); go_simp; try (with_reducible rfl)
             try simp only [who3_8, Act.put, List.setIfInBounds_toArray, List.set_cons_zero, List.set_cons_succ]
             refine wpAnyH_take (i := 9) (oi := who3_9) (v := ?_) rfl (by as_aux_lemma => kernel_rfl) (by as_aux_lemma => kernel_rfl) (by as_aux_lemma => kernel_rfl) (fun _ _ _ h => h) (Or.inl ⟨by rfl, ?_⟩) (by assumption) ?_
             rotate_left
             · unfold who3_9; intro w hSw; (try dsimp only at hSw); go_simp; try (with_reducible rfl)
             try simp only [who3_9, Act.put, List.setIfInBounds_toArray, List.set_cons_zero, List.set_cons_succ]
             refine wpAnyH_done (by kernel_rfl) ?_ _
             go_wp2_with fail
             go_ret
             have v0 : IntKind.i64.wrap (hi - lo) = hi - lo := IntWalk.i64_in _ (by omega)
             have v1 : IntKind.i64.wrap (hi - lo + 1) = hi - lo + 1 := IntWalk.i64_in _ (by omega)
             refine ⟨ret_int (by rw [v0, v1]; exact HN.out.symm), ?_⟩
             (repeat (first | exact b5 | refine below_drw ?_ | refine below_to ?_ (by assumption)))
end Go.Proofs.Ytibkmhmeoelpdaa
