/- PullBack of the model over the translation. -/
import Derived.Test.YtdjjncofahnaaaaGreatPc
import Derived.Test.YtdjjncofahnaaaaGreatGs
namespace Go.Proofs.YtdjjncofahnaaaaGreat
open Go.RowKit Go.Shelf
open Geo (H3)

theorem five5 {V X : World} {p0 p1 p2 p3 p4 : Addr} {a0 a1 a2 a3 a4 : Value} (h0 : V.cell? p0 = some a0) (h1 : V.cell? p1 = some a1) (h2 : V.cell? p2 = some a2) (h3 : V.cell? p3 = some a3) (h4 : V.cell? p4 = some a4) (hb : Below V.heap.size V X) :
    X.cell? p0 = some a0 ∧ X.cell? p1 = some a1 ∧ X.cell? p2 = some a2 ∧ X.cell? p3 = some a3 ∧ X.cell? p4 = some a4 := ⟨cell_to h0 hb, cell_to h1 hb, cell_to h2 hb, cell_to h3 hb, cell_to h4 hb⟩
theorem seven8 {V X : World} {p0 p1 p2 p3 p4 p5 p6 : Addr} {a0 a1 a2 a3 a4 a5 a6 : Value} (h0 : V.cell? p0 = some a0) (h1 : V.cell? p1 = some a1) (h2 : V.cell? p2 = some a2) (h3 : V.cell? p3 = some a3) (h4 : V.cell? p4 = some a4) (h5 : V.cell? p5 = some a5) (h6 : V.cell? p6 = some a6) (hb : Below V.heap.size V X) :
    X.cell? p0 = some a0 ∧ X.cell? p1 = some a1 ∧ X.cell? p2 = some a2 ∧ X.cell? p3 = some a3 ∧ X.cell? p4 = some a4 ∧ X.cell? p5 = some a5 ∧ X.cell? p6 = some a6 := ⟨cell_to h0 hb, cell_to h1 hb, cell_to h2 hb, cell_to h3 hb, cell_to h4 hb, cell_to h5 hb, cell_to h6 hb⟩
theorem pb_in {z0 z1 z2 z3 q : Int} (h0 : -20 ≤ z0 ∧ z0 ≤ 20) (h1 : -20 ≤ z1 ∧ z1 ≤ 20) (h2 : -20 ≤ z2 ∧ z2 ≤ 20) (h3 : -20 ≤ z3 ∧ z3 ≤ 20) (q1 : 1 ≤ q) (q2 : q ≤ 20) {h : H3} (k : okB h = true) :
    (-1000000 ≤ h.a * z0 ∧ h.a * z0 ≤ 1000000) ∧ (-1000000 ≤ h.b * z2 ∧ h.b * z2 ≤ 1000000) ∧ (-1000000 ≤ h.a * z1 ∧ h.a * z1 ≤ 1000000) ∧ (-1000000 ≤ h.b * z3 ∧ h.b * z3 ≤ 1000000) ∧ (-2000000000 ≤ h.c * q ∧ h.c * q ≤ 2000000000) := by
  obtain ⟨x1, x2, y1, y2, _, d1, d2, _⟩ := (okH_iff _ _ _).1 k
  have m0 := mul_in h.a z0 50000 20 x1 x2 h0.1 h0.2
  have m1 := mul_in h.b z2 50000 20 y1 y2 h2.1 h2.2
  have m2 := mul_in h.a z1 50000 20 x1 x2 h1.1 h1.2
  have m3 := mul_in h.b z3 50000 20 y1 y2 h3.1 h3.2
  have m4 := mul_in h.c q 100000000 20 d1 d2 (by omega) q2
  omega
set_option maxRecDepth 20000 in
set_option maxHeartbeats 8000000 in
theorem spec_pb (a : Option Addr) (n ca : Nat) (ps : List H3) (am : Option Addr) (nm cm : Nat) (zs : List Int) (q : Int) (w : World) (hl : ps.length = n) (hn : n ≤ 1048576) (h64 : ∀ h ∈ ps, In64 h) (hz : a = none → n = 0 ∧ ca = 0) (hlm : zs.length = nm) (hA : HsAt w a ps) (hM : IsAt w am zs) :
    Calls Tryz.prog 152 #[.agg #[.slice a n ca], .slice am nm cm, .int .i64 q] w (AnsR w (pbkL ps zs q) (pbkB ps zs q)) := by
  obtain ⟨i0, hi, hz0, hz1, hz2⟩ := info_parts Tryz.info34
  have bV := below_bx2 (below_one w (.cells #[.slice a n ca] 26)) (.cells #[.slice none 0 0] 26)
  have q0 := cell_to (show (w.alloc (.cells #[.slice a n ca] 26)).cell? ⟨w.heap.size, 0, none⟩ = some (.slice a n ca) by simp) (below_one _ (.cells #[.slice none 0 0] 26))
  obtain ⟨q1, f1⟩ := box_one (U := (w.alloc (.cells #[.slice a n ca] 26))) (b := w.heap.size + 1) (by simp) (.slice none 0 0) 26
  have HR := Lib.hid (fun V (h : Below w.heap.size w V) => spec_rok a n ca ps V hl hn h64 hz (hA.below h))
  have HI := Lib.hid (fun V (h : Below w.heap.size w V) => spec_map am nm cm zs q V hlm (hM.below h))
  have HA := Lib.hid hA
  have HZ := Lib.hid hM
  have HL := Lib.hid hl
  have HLM := Lib.hid hlm
  clear hl hA h64 hlm hM hz
  go_enter Tryz.func152, Tryz.ntmps152
  go_wp2_with fail
  generalize ((w.alloc (.cells #[.slice a n ca] 26)).alloc (.cells #[.slice none 0 0] 26)) = V at *
  go_cut [39] from 13 to 39 (fun s39 wx => s39 = .bool (!pbkC ps zs q) ∧ Below V.heap.size V wx)
  case first =>
    cases hr : rokB ps with
    | false =>
      have HN := Lib.hid (show pbkC ps zs q = false by unfold pbkC; rw [hr]; simp)
      rw [hr] at HR
      clear hr HA HZ HL HLM HI
      refine wp_region_held_drew (S := (fun w' => w'.cell? ⟨w.heap.size, 0, none⟩ = some (.slice a n ca))) (by kernel_rfl) ?_ (fun hHeld => ?_)
      · (refine cell_to q0 ?_; repeat (first | exact Below.refl _ _ | refine below_drw ?_ | refine below_to ?_ (by assumption)))
      refine wpAnyH_take (i := 0) (oi := { dst := some 13, op := Op.load 26 (Operand.tmp 3), type := 26, pos := "l07_shift.go:108", after := #[], guard := none }) (v := ?_) rfl (by as_aux_lemma => kernel_rfl) (by as_aux_lemma => kernel_rfl) (by as_aux_lemma => kernel_rfl) (fun _ _ _ h => h) (Or.inl ⟨by rfl, ?_⟩) (by assumption) ?_
      rotate_left
      · intro w hSw; (try dsimp only at hSw); go_simp; try (with_reducible rfl)
      try simp only [Act.put, List.setIfInBounds_toArray, List.set_cons_zero, List.set_cons_succ]
      refine wpAnyH_ready (rs := [1]) (by as_aux_lemma => kernel_rfl) (by simp) ?_
      refine AllReadyH.cons (o := { dst := some 14, op := Op.call { callee := Callee.value (Operand.func 123), args := #[Operand.tmp 13], argTypes := #[26] }, type := 4, pos := "l07_shift.go:108", after := #[{ on := 0, ground := Ground.data }], guard := none }) rfl (fun K hK => ?_) AllReadyH.nil
      go_simp
      (first | (go_at_call 123; (with_reducible refine (HR.out _ ?_).mono ?_); (focus (repeat (first | exact bV | refine below_drw ?_ | refine below_to ?_ (by assumption)))); rintro e v1 ⟨rfl, bl1⟩) | (go_at_call 122; (with_reducible refine (HI.out _ ?_).mono ?_); (focus (repeat (first | exact bV | refine below_drw ?_ | refine below_to ?_ (by assumption)))); rintro e v2 ⟨rfl, rfl⟩))
      try go_wp2_with fail
      refine hK.out _ _ ?_ (fun hHeld2 => ?_)
      · (refine cell_to q0 ?_; repeat (first | exact Below.refl _ _ | refine below_drw ?_ | refine below_to ?_ (by assumption)))
      clear hK K hHeld
      have hHeld := hHeld2
      clear hHeld2
      try simp only [Act.put, List.setIfInBounds_toArray, List.set_cons_zero, List.set_cons_succ]
      as_aux_lemma =>
        refine wpAnyH_take (i := 2) (oi := { dst := some 15, op := Op.unOp UnOp.not 4 (Operand.tmp 14), type := 4, pos := "l07_shift.go:108", after := #[{ on := 1, ground := Ground.data }], guard := none }) (v := ?_) rfl (by as_aux_lemma => kernel_rfl) (by as_aux_lemma => kernel_rfl) (by as_aux_lemma => kernel_rfl) (fun _ _ _ h => h) (Or.inl ⟨by rfl, ?_⟩) (by assumption) ?_
        rotate_left
        · intro w hSw; (try dsimp only at hSw); go_simp; try (with_reducible rfl)
        try simp only [Act.put, List.setIfInBounds_toArray, List.set_cons_zero, List.set_cons_succ]
        refine wpAnyH_take (i := 3) (oi := { dst := some 16, op := Op.move (Operand.tmp 15), type := 4, pos := "l07_shift.go:108", after := #[{ on := 2, ground := Ground.data }, { on := 1, ground := Ground.chain }], guard := none }) (v := ?_) rfl (by as_aux_lemma => kernel_rfl) (by as_aux_lemma => kernel_rfl) (by as_aux_lemma => kernel_rfl) (fun _ _ _ h => h) (Or.inl ⟨by rfl, ?_⟩) (by assumption) ?_
        rotate_left
        · intro w hSw; (try dsimp only at hSw); go_simp; try (with_reducible rfl)
        try simp only [Act.put, List.setIfInBounds_toArray, List.set_cons_zero, List.set_cons_succ]
        refine wpAnyH_take (i := 4) (oi := { dst := some 17, op := Op.move (Operand.tmp 1), type := 23, pos := "l07_shift.go:108", after := #[{ on := 3, ground := Ground.guard }], guard := some (3, false) }) (v := undef) rfl (by as_aux_lemma => kernel_rfl) (by as_aux_lemma => kernel_rfl) (by as_aux_lemma => kernel_rfl) (fun _ _ _ h => h) (Or.inr ⟨by rfl, rfl⟩) (by assumption) ?_
        try simp only [Act.put, List.setIfInBounds_toArray, List.set_cons_zero, List.set_cons_succ]
        refine wpAnyH_take (i := 5) (oi := { dst := some 18, op := Op.move (Operand.tmp 2), type := 3, pos := "l07_shift.go:108", after := #[{ on := 3, ground := Ground.guard }], guard := some (3, false) }) (v := undef) rfl (by as_aux_lemma => kernel_rfl) (by as_aux_lemma => kernel_rfl) (by as_aux_lemma => kernel_rfl) (fun _ _ _ h => h) (Or.inr ⟨by rfl, rfl⟩) (by assumption) ?_
        try simp only [Act.put, List.setIfInBounds_toArray, List.set_cons_zero, List.set_cons_succ]
        refine wpAnyH_take (i := 6) (oi := { dst := some 19, op := Op.call { callee := Callee.value (Operand.func 122), args := #[Operand.tmp 17, Operand.tmp 18], argTypes := #[23, 3] }, type := 4, pos := "l07_shift.go:108", after := #[{ on := 4, ground := Ground.data }, { on := 5, ground := Ground.data }, { on := 3, ground := Ground.chain }, { on := 3, ground := Ground.guard }], guard := some (3, false) }) (v := undef) rfl (by as_aux_lemma => kernel_rfl) (by as_aux_lemma => kernel_rfl) (by as_aux_lemma => kernel_rfl) (fun _ _ _ h => h) (Or.inr ⟨by rfl, rfl⟩) (by assumption) ?_
        try simp only [Act.put, List.setIfInBounds_toArray, List.set_cons_zero, List.set_cons_succ]
        refine wpAnyH_take (i := 7) (oi := { dst := some 20, op := Op.unOp UnOp.not 4 (Operand.tmp 19), type := 4, pos := "l07_shift.go:108", after := #[{ on := 6, ground := Ground.data }, { on := 3, ground := Ground.guard }], guard := some (3, false) }) (v := undef) rfl (by as_aux_lemma => kernel_rfl) (by as_aux_lemma => kernel_rfl) (by as_aux_lemma => kernel_rfl) (fun _ _ _ h => h) (Or.inr ⟨by rfl, rfl⟩) (by assumption) ?_
        try simp only [Act.put, List.setIfInBounds_toArray, List.set_cons_zero, List.set_cons_succ]
        refine wpAnyH_take (i := 8) (oi := { dst := some 21, op := Op.pick (Operand.tmp 16) (Operand.const (Value.bool true)) (Operand.tmp 20), type := 4, pos := "l07_shift.go:108", after := #[{ on := 3, ground := Ground.data }, { on := 7, ground := Ground.data }], guard := none }) (v := ?_) rfl (by as_aux_lemma => kernel_rfl) (by as_aux_lemma => kernel_rfl) (by as_aux_lemma => kernel_rfl) (fun _ _ _ h => h) (Or.inl ⟨by rfl, ?_⟩) (by assumption) ?_
        rotate_left
        · intro w hSw; (try dsimp only at hSw); go_simp; try (with_reducible rfl)
        try simp only [Act.put, List.setIfInBounds_toArray, List.set_cons_zero, List.set_cons_succ]
        refine wpAnyH_take (i := 9) (oi := { dst := some 22, op := Op.move (Operand.tmp 21), type := 4, pos := "l07_shift.go:108", after := #[{ on := 8, ground := Ground.data }, { on := 6, ground := Ground.chain }], guard := none }) (v := ?_) rfl (by as_aux_lemma => kernel_rfl) (by as_aux_lemma => kernel_rfl) (by as_aux_lemma => kernel_rfl) (fun _ _ _ h => h) (Or.inl ⟨by rfl, ?_⟩) (by assumption) ?_
        rotate_left
        · intro w hSw; (try dsimp only at hSw); go_simp; try (with_reducible rfl)
        try simp only [Act.put, List.setIfInBounds_toArray, List.set_cons_zero, List.set_cons_succ]
        refine wpAnyH_take (i := 10) (oi := { dst := some 23, op := Op.move (Operand.tmp 1), type := 23, pos := "l07_shift.go:108", after := #[{ on := 9, ground := Ground.guard }], guard := some (9, false) }) (v := undef) rfl (by as_aux_lemma => kernel_rfl) (by as_aux_lemma => kernel_rfl) (by as_aux_lemma => kernel_rfl) (fun _ _ _ h => h) (Or.inr ⟨by rfl, rfl⟩) (by assumption) ?_
        try simp only [Act.put, List.setIfInBounds_toArray, List.set_cons_zero, List.set_cons_succ]
        refine wpAnyH_take (i := 11) (oi := { dst := some 24, op := Op.indexAddr 23 (Operand.tmp 23) (Operand.const (Value.int IntKind.i64 0)), type := 0, pos := "l07_shift.go:108", after := #[{ on := 10, ground := Ground.data }, { on := 9, ground := Ground.guard }], guard := some (9, false) }) (v := undef) rfl (by as_aux_lemma => kernel_rfl) (by as_aux_lemma => kernel_rfl) (by as_aux_lemma => kernel_rfl) (fun _ _ _ h => h) (Or.inr ⟨by rfl, rfl⟩) (by assumption) ?_
        try simp only [Act.put, List.setIfInBounds_toArray, List.set_cons_zero, List.set_cons_succ]
        refine wpAnyH_take (i := 12) (oi := { dst := some 25, op := Op.load 3 (Operand.tmp 24), type := 3, pos := "l07_shift.go:108", after := #[{ on := 11, ground := Ground.data }, { on := 9, ground := Ground.guard }], guard := some (9, false) }) (v := undef) rfl (by as_aux_lemma => kernel_rfl) (by as_aux_lemma => kernel_rfl) (by as_aux_lemma => kernel_rfl) (fun _ _ _ h => h) (Or.inr ⟨by rfl, rfl⟩) (by assumption) ?_
        try simp only [Act.put, List.setIfInBounds_toArray, List.set_cons_zero, List.set_cons_succ]
        refine wpAnyH_take (i := 13) (oi := { dst := some 26, op := Op.move (Operand.tmp 1), type := 23, pos := "l07_shift.go:108", after := #[{ on := 9, ground := Ground.guard }], guard := some (9, false) }) (v := undef) rfl (by as_aux_lemma => kernel_rfl) (by as_aux_lemma => kernel_rfl) (by as_aux_lemma => kernel_rfl) (fun _ _ _ h => h) (Or.inr ⟨by rfl, rfl⟩) (by assumption) ?_
        try simp only [Act.put, List.setIfInBounds_toArray, List.set_cons_zero, List.set_cons_succ]
        refine wpAnyH_take (i := 14) (oi := { dst := some 27, op := Op.indexAddr 23 (Operand.tmp 26) (Operand.const (Value.int IntKind.i64 3)), type := 0, pos := "l07_shift.go:108", after := #[{ on := 13, ground := Ground.data }, { on := 9, ground := Ground.guard }], guard := some (9, false) }) (v := undef) rfl (by as_aux_lemma => kernel_rfl) (by as_aux_lemma => kernel_rfl) (by as_aux_lemma => kernel_rfl) (fun _ _ _ h => h) (Or.inr ⟨by rfl, rfl⟩) (by assumption) ?_
        try simp only [Act.put, List.setIfInBounds_toArray, List.set_cons_zero, List.set_cons_succ]
        refine wpAnyH_take (i := 15) (oi := { dst := some 28, op := Op.load 3 (Operand.tmp 27), type := 3, pos := "l07_shift.go:108", after := #[{ on := 14, ground := Ground.data }, { on := 9, ground := Ground.guard }], guard := some (9, false) }) (v := undef) rfl (by as_aux_lemma => kernel_rfl) (by as_aux_lemma => kernel_rfl) (by as_aux_lemma => kernel_rfl) (fun _ _ _ h => h) (Or.inr ⟨by rfl, rfl⟩) (by assumption) ?_
        try simp only [Act.put, List.setIfInBounds_toArray, List.set_cons_zero, List.set_cons_succ]
        refine wpAnyH_take (i := 16) (oi := { dst := some 29, op := Op.binOp BinOp.mul 3 (Operand.tmp 25) (Operand.tmp 28) 3, type := 3, pos := "l07_shift.go:108", after := #[{ on := 12, ground := Ground.data }, { on := 15, ground := Ground.data }, { on := 9, ground := Ground.guard }], guard := some (9, false) }) (v := undef) rfl (by as_aux_lemma => kernel_rfl) (by as_aux_lemma => kernel_rfl) (by as_aux_lemma => kernel_rfl) (fun _ _ _ h => h) (Or.inr ⟨by rfl, rfl⟩) (by assumption) ?_
        try simp only [Act.put, List.setIfInBounds_toArray, List.set_cons_zero, List.set_cons_succ]
        refine wpAnyH_take (i := 17) (oi := { dst := some 30, op := Op.move (Operand.tmp 1), type := 23, pos := "l07_shift.go:108", after := #[{ on := 9, ground := Ground.guard }], guard := some (9, false) }) (v := undef) rfl (by as_aux_lemma => kernel_rfl) (by as_aux_lemma => kernel_rfl) (by as_aux_lemma => kernel_rfl) (fun _ _ _ h => h) (Or.inr ⟨by rfl, rfl⟩) (by assumption) ?_
        try simp only [Act.put, List.setIfInBounds_toArray, List.set_cons_zero, List.set_cons_succ]
        refine wpAnyH_take (i := 18) (oi := { dst := some 31, op := Op.indexAddr 23 (Operand.tmp 30) (Operand.const (Value.int IntKind.i64 1)), type := 0, pos := "l07_shift.go:108", after := #[{ on := 17, ground := Ground.data }, { on := 9, ground := Ground.guard }], guard := some (9, false) }) (v := undef) rfl (by as_aux_lemma => kernel_rfl) (by as_aux_lemma => kernel_rfl) (by as_aux_lemma => kernel_rfl) (fun _ _ _ h => h) (Or.inr ⟨by rfl, rfl⟩) (by assumption) ?_
        try simp only [Act.put, List.setIfInBounds_toArray, List.set_cons_zero, List.set_cons_succ]
        refine wpAnyH_take (i := 19) (oi := { dst := some 32, op := Op.load 3 (Operand.tmp 31), type := 3, pos := "l07_shift.go:108", after := #[{ on := 18, ground := Ground.data }, { on := 9, ground := Ground.guard }], guard := some (9, false) }) (v := undef) rfl (by as_aux_lemma => kernel_rfl) (by as_aux_lemma => kernel_rfl) (by as_aux_lemma => kernel_rfl) (fun _ _ _ h => h) (Or.inr ⟨by rfl, rfl⟩) (by assumption) ?_
        try simp only [Act.put, List.setIfInBounds_toArray, List.set_cons_zero, List.set_cons_succ]
        refine wpAnyH_take (i := 20) (oi := { dst := some 33, op := Op.move (Operand.tmp 1), type := 23, pos := "l07_shift.go:108", after := #[{ on := 9, ground := Ground.guard }], guard := some (9, false) }) (v := undef) rfl (by as_aux_lemma => kernel_rfl) (by as_aux_lemma => kernel_rfl) (by as_aux_lemma => kernel_rfl) (fun _ _ _ h => h) (Or.inr ⟨by rfl, rfl⟩) (by assumption) ?_
        try simp only [Act.put, List.setIfInBounds_toArray, List.set_cons_zero, List.set_cons_succ]
        refine wpAnyH_take (i := 21) (oi := { dst := some 34, op := Op.indexAddr 23 (Operand.tmp 33) (Operand.const (Value.int IntKind.i64 2)), type := 0, pos := "l07_shift.go:108", after := #[{ on := 20, ground := Ground.data }, { on := 9, ground := Ground.guard }], guard := some (9, false) }) (v := undef) rfl (by as_aux_lemma => kernel_rfl) (by as_aux_lemma => kernel_rfl) (by as_aux_lemma => kernel_rfl) (fun _ _ _ h => h) (Or.inr ⟨by rfl, rfl⟩) (by assumption) ?_
        try simp only [Act.put, List.setIfInBounds_toArray, List.set_cons_zero, List.set_cons_succ]
        refine wpAnyH_take (i := 22) (oi := { dst := some 35, op := Op.load 3 (Operand.tmp 34), type := 3, pos := "l07_shift.go:108", after := #[{ on := 21, ground := Ground.data }, { on := 9, ground := Ground.guard }], guard := some (9, false) }) (v := undef) rfl (by as_aux_lemma => kernel_rfl) (by as_aux_lemma => kernel_rfl) (by as_aux_lemma => kernel_rfl) (fun _ _ _ h => h) (Or.inr ⟨by rfl, rfl⟩) (by assumption) ?_
        try simp only [Act.put, List.setIfInBounds_toArray, List.set_cons_zero, List.set_cons_succ]
        refine wpAnyH_take (i := 23) (oi := { dst := some 36, op := Op.binOp BinOp.mul 3 (Operand.tmp 32) (Operand.tmp 35) 3, type := 3, pos := "l07_shift.go:108", after := #[{ on := 19, ground := Ground.data }, { on := 22, ground := Ground.data }, { on := 9, ground := Ground.guard }], guard := some (9, false) }) (v := undef) rfl (by as_aux_lemma => kernel_rfl) (by as_aux_lemma => kernel_rfl) (by as_aux_lemma => kernel_rfl) (fun _ _ _ h => h) (Or.inr ⟨by rfl, rfl⟩) (by assumption) ?_
        try simp only [Act.put, List.setIfInBounds_toArray, List.set_cons_zero, List.set_cons_succ]
        refine wpAnyH_take (i := 24) (oi := { dst := some 37, op := Op.binOp BinOp.sub 3 (Operand.tmp 29) (Operand.tmp 36) 3, type := 3, pos := "l07_shift.go:108", after := #[{ on := 16, ground := Ground.data }, { on := 23, ground := Ground.data }, { on := 9, ground := Ground.guard }], guard := some (9, false) }) (v := undef) rfl (by as_aux_lemma => kernel_rfl) (by as_aux_lemma => kernel_rfl) (by as_aux_lemma => kernel_rfl) (fun _ _ _ h => h) (Or.inr ⟨by rfl, rfl⟩) (by assumption) ?_
        try simp only [Act.put, List.setIfInBounds_toArray, List.set_cons_zero, List.set_cons_succ]
        refine wpAnyH_take (i := 25) (oi := { dst := some 38, op := Op.binOp BinOp.eql 3 (Operand.tmp 37) (Operand.const (Value.int IntKind.i64 0)) 3, type := 4, pos := "l07_shift.go:108", after := #[{ on := 24, ground := Ground.data }, { on := 9, ground := Ground.guard }], guard := some (9, false) }) (v := undef) rfl (by as_aux_lemma => kernel_rfl) (by as_aux_lemma => kernel_rfl) (by as_aux_lemma => kernel_rfl) (fun _ _ _ h => h) (Or.inr ⟨by rfl, rfl⟩) (by assumption) ?_
        try simp only [Act.put, List.setIfInBounds_toArray, List.set_cons_zero, List.set_cons_succ]
        refine wpAnyH_take (i := 26) (oi := { dst := some 39, op := Op.pick (Operand.tmp 22) (Operand.const (Value.bool true)) (Operand.tmp 38), type := 4, pos := "l07_shift.go:108", after := #[{ on := 9, ground := Ground.data }, { on := 25, ground := Ground.data }], guard := none }) (v := ?_) rfl (by as_aux_lemma => kernel_rfl) (by as_aux_lemma => kernel_rfl) (by as_aux_lemma => kernel_rfl) (fun _ _ _ h => h) (Or.inl ⟨by rfl, ?_⟩) (by assumption) ?_
        rotate_left
        · intro w hSw; (try dsimp only at hSw); go_simp; try (with_reducible rfl)
        try simp only [Act.put, List.setIfInBounds_toArray, List.set_cons_zero, List.set_cons_succ]
        refine wpAnyH_done (by kernel_rfl) ?_ _
        go_wp2_with fail
        go_meet
        refine ⟨by rw [HN.out]; first | rfl | (simp; done) | (simp; rfl), ?_⟩
        repeat (first | exact Below.refl _ _ | refine below_drw ?_ | refine below_to ?_ (by assumption))
    | true =>
      rw [hr] at HR
      cases hm : mapB zs q with
      | false =>
        have HN := Lib.hid (show pbkC ps zs q = false by unfold pbkC; rw [hm]; rfl)
        rw [hm] at HI
        clear hm HA HZ HL HLM hr
        refine wp_region_held_drew (S := (fun w' => w'.cell? ⟨w.heap.size, 0, none⟩ = some (.slice a n ca))) (by kernel_rfl) ?_ (fun hHeld => ?_)
        · (refine cell_to q0 ?_; repeat (first | exact Below.refl _ _ | refine below_drw ?_ | refine below_to ?_ (by assumption)))
        refine wpAnyH_take (i := 0) (oi := { dst := some 13, op := Op.load 26 (Operand.tmp 3), type := 26, pos := "l07_shift.go:108", after := #[], guard := none }) (v := ?_) rfl (by as_aux_lemma => kernel_rfl) (by as_aux_lemma => kernel_rfl) (by as_aux_lemma => kernel_rfl) (fun _ _ _ h => h) (Or.inl ⟨by rfl, ?_⟩) (by assumption) ?_
        rotate_left
        · intro w hSw; (try dsimp only at hSw); go_simp; try (with_reducible rfl)
        try simp only [Act.put, List.setIfInBounds_toArray, List.set_cons_zero, List.set_cons_succ]
        refine wpAnyH_ready (rs := [1]) (by as_aux_lemma => kernel_rfl) (by simp) ?_
        refine AllReadyH.cons (o := { dst := some 14, op := Op.call { callee := Callee.value (Operand.func 123), args := #[Operand.tmp 13], argTypes := #[26] }, type := 4, pos := "l07_shift.go:108", after := #[{ on := 0, ground := Ground.data }], guard := none }) rfl (fun K hK => ?_) AllReadyH.nil
        go_simp
        (first | (go_at_call 123; (with_reducible refine (HR.out _ ?_).mono ?_); (focus (repeat (first | exact bV | refine below_drw ?_ | refine below_to ?_ (by assumption)))); rintro e v1 ⟨rfl, bl1⟩) | (go_at_call 122; (with_reducible refine (HI.out _ ?_).mono ?_); (focus (repeat (first | exact bV | refine below_drw ?_ | refine below_to ?_ (by assumption)))); rintro e v2 ⟨rfl, rfl⟩))
        try go_wp2_with fail
        refine hK.out _ _ ?_ (fun hHeld2 => ?_)
        · (refine cell_to q0 ?_; repeat (first | exact Below.refl _ _ | refine below_drw ?_ | refine below_to ?_ (by assumption)))
        clear hK K hHeld
        have hHeld := hHeld2
        clear hHeld2
        try simp only [Act.put, List.setIfInBounds_toArray, List.set_cons_zero, List.set_cons_succ]
        as_aux_lemma =>
          refine wpAnyH_take (i := 2) (oi := { dst := some 15, op := Op.unOp UnOp.not 4 (Operand.tmp 14), type := 4, pos := "l07_shift.go:108", after := #[{ on := 1, ground := Ground.data }], guard := none }) (v := ?_) rfl (by as_aux_lemma => kernel_rfl) (by as_aux_lemma => kernel_rfl) (by as_aux_lemma => kernel_rfl) (fun _ _ _ h => h) (Or.inl ⟨by rfl, ?_⟩) (by assumption) ?_
          rotate_left
          · intro w hSw; (try dsimp only at hSw); go_simp; try (with_reducible rfl)
          try simp only [Act.put, List.setIfInBounds_toArray, List.set_cons_zero, List.set_cons_succ]
          refine wpAnyH_take (i := 3) (oi := { dst := some 16, op := Op.move (Operand.tmp 15), type := 4, pos := "l07_shift.go:108", after := #[{ on := 2, ground := Ground.data }, { on := 1, ground := Ground.chain }], guard := none }) (v := ?_) rfl (by as_aux_lemma => kernel_rfl) (by as_aux_lemma => kernel_rfl) (by as_aux_lemma => kernel_rfl) (fun _ _ _ h => h) (Or.inl ⟨by rfl, ?_⟩) (by assumption) ?_
          rotate_left
          · intro w hSw; (try dsimp only at hSw); go_simp; try (with_reducible rfl)
          try simp only [Act.put, List.setIfInBounds_toArray, List.set_cons_zero, List.set_cons_succ]
          refine wpAnyH_take (i := 4) (oi := { dst := some 17, op := Op.move (Operand.tmp 1), type := 23, pos := "l07_shift.go:108", after := #[{ on := 3, ground := Ground.guard }], guard := some (3, false) }) (v := ?_) rfl (by as_aux_lemma => kernel_rfl) (by as_aux_lemma => kernel_rfl) (by as_aux_lemma => kernel_rfl) (fun _ _ _ h => h) (Or.inl ⟨by rfl, ?_⟩) (by assumption) ?_
          rotate_left
          · intro w hSw; (try dsimp only at hSw); go_simp; try (with_reducible rfl)
          try simp only [Act.put, List.setIfInBounds_toArray, List.set_cons_zero, List.set_cons_succ]
          refine wpAnyH_take (i := 5) (oi := { dst := some 18, op := Op.move (Operand.tmp 2), type := 3, pos := "l07_shift.go:108", after := #[{ on := 3, ground := Ground.guard }], guard := some (3, false) }) (v := ?_) rfl (by as_aux_lemma => kernel_rfl) (by as_aux_lemma => kernel_rfl) (by as_aux_lemma => kernel_rfl) (fun _ _ _ h => h) (Or.inl ⟨by rfl, ?_⟩) (by assumption) ?_
          rotate_left
          · intro w hSw; (try dsimp only at hSw); go_simp; try (with_reducible rfl)
          try simp only [Act.put, List.setIfInBounds_toArray, List.set_cons_zero, List.set_cons_succ]
          refine wpAnyH_ready (rs := [6]) (by as_aux_lemma => kernel_rfl) (by simp) ?_
          refine AllReadyH.cons (o := { dst := some 19, op := Op.call { callee := Callee.value (Operand.func 122), args := #[Operand.tmp 17, Operand.tmp 18], argTypes := #[23, 3] }, type := 4, pos := "l07_shift.go:108", after := #[{ on := 4, ground := Ground.data }, { on := 5, ground := Ground.data }, { on := 3, ground := Ground.chain }, { on := 3, ground := Ground.guard }], guard := some (3, false) }) rfl (fun K hK => ?_) AllReadyH.nil
          go_simp
          (first | (go_at_call 123; (with_reducible refine (HR.out _ ?_).mono ?_); (focus (repeat (first | exact bV | refine below_drw ?_ | refine below_to ?_ (by assumption)))); rintro e v1 ⟨rfl, bl1⟩) | (go_at_call 122; (with_reducible refine (HI.out _ ?_).mono ?_); (focus (repeat (first | exact bV | refine below_drw ?_ | refine below_to ?_ (by assumption)))); rintro e v2 ⟨rfl, rfl⟩))
          try go_wp2_with fail
          refine hK.out _ _ ?_ (fun hHeld2 => ?_)
          · (refine cell_to q0 ?_; repeat (first | exact Below.refl _ _ | refine below_drw ?_ | refine below_to ?_ (by assumption)))
          clear hK K hHeld
          have hHeld := hHeld2
          clear hHeld2
          try simp only [Act.put, List.setIfInBounds_toArray, List.set_cons_zero, List.set_cons_succ]
          as_aux_lemma =>
            refine wpAnyH_take (i := 7) (oi := { dst := some 20, op := Op.unOp UnOp.not 4 (Operand.tmp 19), type := 4, pos := "l07_shift.go:108", after := #[{ on := 6, ground := Ground.data }, { on := 3, ground := Ground.guard }], guard := some (3, false) }) (v := ?_) rfl (by as_aux_lemma => kernel_rfl) (by as_aux_lemma => kernel_rfl) (by as_aux_lemma => kernel_rfl) (fun _ _ _ h => h) (Or.inl ⟨by rfl, ?_⟩) (by assumption) ?_
            rotate_left
            · intro w hSw; (try dsimp only at hSw); go_simp; try (with_reducible rfl)
            try simp only [Act.put, List.setIfInBounds_toArray, List.set_cons_zero, List.set_cons_succ]
            refine wpAnyH_take (i := 8) (oi := { dst := some 21, op := Op.pick (Operand.tmp 16) (Operand.const (Value.bool true)) (Operand.tmp 20), type := 4, pos := "l07_shift.go:108", after := #[{ on := 3, ground := Ground.data }, { on := 7, ground := Ground.data }], guard := none }) (v := ?_) rfl (by as_aux_lemma => kernel_rfl) (by as_aux_lemma => kernel_rfl) (by as_aux_lemma => kernel_rfl) (fun _ _ _ h => h) (Or.inl ⟨by rfl, ?_⟩) (by assumption) ?_
            rotate_left
            · intro w hSw; (try dsimp only at hSw); go_simp; try (with_reducible rfl)
            try simp only [Act.put, List.setIfInBounds_toArray, List.set_cons_zero, List.set_cons_succ]
            refine wpAnyH_take (i := 9) (oi := { dst := some 22, op := Op.move (Operand.tmp 21), type := 4, pos := "l07_shift.go:108", after := #[{ on := 8, ground := Ground.data }, { on := 6, ground := Ground.chain }], guard := none }) (v := ?_) rfl (by as_aux_lemma => kernel_rfl) (by as_aux_lemma => kernel_rfl) (by as_aux_lemma => kernel_rfl) (fun _ _ _ h => h) (Or.inl ⟨by rfl, ?_⟩) (by assumption) ?_
            rotate_left
            · intro w hSw; (try dsimp only at hSw); go_simp; try (with_reducible rfl)
            try simp only [Act.put, List.setIfInBounds_toArray, List.set_cons_zero, List.set_cons_succ]
            refine wpAnyH_take (i := 10) (oi := { dst := some 23, op := Op.move (Operand.tmp 1), type := 23, pos := "l07_shift.go:108", after := #[{ on := 9, ground := Ground.guard }], guard := some (9, false) }) (v := undef) rfl (by as_aux_lemma => kernel_rfl) (by as_aux_lemma => kernel_rfl) (by as_aux_lemma => kernel_rfl) (fun _ _ _ h => h) (Or.inr ⟨by rfl, rfl⟩) (by assumption) ?_
            try simp only [Act.put, List.setIfInBounds_toArray, List.set_cons_zero, List.set_cons_succ]
            refine wpAnyH_take (i := 11) (oi := { dst := some 24, op := Op.indexAddr 23 (Operand.tmp 23) (Operand.const (Value.int IntKind.i64 0)), type := 0, pos := "l07_shift.go:108", after := #[{ on := 10, ground := Ground.data }, { on := 9, ground := Ground.guard }], guard := some (9, false) }) (v := undef) rfl (by as_aux_lemma => kernel_rfl) (by as_aux_lemma => kernel_rfl) (by as_aux_lemma => kernel_rfl) (fun _ _ _ h => h) (Or.inr ⟨by rfl, rfl⟩) (by assumption) ?_
            try simp only [Act.put, List.setIfInBounds_toArray, List.set_cons_zero, List.set_cons_succ]
            refine wpAnyH_take (i := 12) (oi := { dst := some 25, op := Op.load 3 (Operand.tmp 24), type := 3, pos := "l07_shift.go:108", after := #[{ on := 11, ground := Ground.data }, { on := 9, ground := Ground.guard }], guard := some (9, false) }) (v := undef) rfl (by as_aux_lemma => kernel_rfl) (by as_aux_lemma => kernel_rfl) (by as_aux_lemma => kernel_rfl) (fun _ _ _ h => h) (Or.inr ⟨by rfl, rfl⟩) (by assumption) ?_
            try simp only [Act.put, List.setIfInBounds_toArray, List.set_cons_zero, List.set_cons_succ]
            refine wpAnyH_take (i := 13) (oi := { dst := some 26, op := Op.move (Operand.tmp 1), type := 23, pos := "l07_shift.go:108", after := #[{ on := 9, ground := Ground.guard }], guard := some (9, false) }) (v := undef) rfl (by as_aux_lemma => kernel_rfl) (by as_aux_lemma => kernel_rfl) (by as_aux_lemma => kernel_rfl) (fun _ _ _ h => h) (Or.inr ⟨by rfl, rfl⟩) (by assumption) ?_
            try simp only [Act.put, List.setIfInBounds_toArray, List.set_cons_zero, List.set_cons_succ]
            refine wpAnyH_take (i := 14) (oi := { dst := some 27, op := Op.indexAddr 23 (Operand.tmp 26) (Operand.const (Value.int IntKind.i64 3)), type := 0, pos := "l07_shift.go:108", after := #[{ on := 13, ground := Ground.data }, { on := 9, ground := Ground.guard }], guard := some (9, false) }) (v := undef) rfl (by as_aux_lemma => kernel_rfl) (by as_aux_lemma => kernel_rfl) (by as_aux_lemma => kernel_rfl) (fun _ _ _ h => h) (Or.inr ⟨by rfl, rfl⟩) (by assumption) ?_
            try simp only [Act.put, List.setIfInBounds_toArray, List.set_cons_zero, List.set_cons_succ]
            refine wpAnyH_take (i := 15) (oi := { dst := some 28, op := Op.load 3 (Operand.tmp 27), type := 3, pos := "l07_shift.go:108", after := #[{ on := 14, ground := Ground.data }, { on := 9, ground := Ground.guard }], guard := some (9, false) }) (v := undef) rfl (by as_aux_lemma => kernel_rfl) (by as_aux_lemma => kernel_rfl) (by as_aux_lemma => kernel_rfl) (fun _ _ _ h => h) (Or.inr ⟨by rfl, rfl⟩) (by assumption) ?_
            try simp only [Act.put, List.setIfInBounds_toArray, List.set_cons_zero, List.set_cons_succ]
            refine wpAnyH_take (i := 16) (oi := { dst := some 29, op := Op.binOp BinOp.mul 3 (Operand.tmp 25) (Operand.tmp 28) 3, type := 3, pos := "l07_shift.go:108", after := #[{ on := 12, ground := Ground.data }, { on := 15, ground := Ground.data }, { on := 9, ground := Ground.guard }], guard := some (9, false) }) (v := undef) rfl (by as_aux_lemma => kernel_rfl) (by as_aux_lemma => kernel_rfl) (by as_aux_lemma => kernel_rfl) (fun _ _ _ h => h) (Or.inr ⟨by rfl, rfl⟩) (by assumption) ?_
            try simp only [Act.put, List.setIfInBounds_toArray, List.set_cons_zero, List.set_cons_succ]
            refine wpAnyH_take (i := 17) (oi := { dst := some 30, op := Op.move (Operand.tmp 1), type := 23, pos := "l07_shift.go:108", after := #[{ on := 9, ground := Ground.guard }], guard := some (9, false) }) (v := undef) rfl (by as_aux_lemma => kernel_rfl) (by as_aux_lemma => kernel_rfl) (by as_aux_lemma => kernel_rfl) (fun _ _ _ h => h) (Or.inr ⟨by rfl, rfl⟩) (by assumption) ?_
            try simp only [Act.put, List.setIfInBounds_toArray, List.set_cons_zero, List.set_cons_succ]
            refine wpAnyH_take (i := 18) (oi := { dst := some 31, op := Op.indexAddr 23 (Operand.tmp 30) (Operand.const (Value.int IntKind.i64 1)), type := 0, pos := "l07_shift.go:108", after := #[{ on := 17, ground := Ground.data }, { on := 9, ground := Ground.guard }], guard := some (9, false) }) (v := undef) rfl (by as_aux_lemma => kernel_rfl) (by as_aux_lemma => kernel_rfl) (by as_aux_lemma => kernel_rfl) (fun _ _ _ h => h) (Or.inr ⟨by rfl, rfl⟩) (by assumption) ?_
            try simp only [Act.put, List.setIfInBounds_toArray, List.set_cons_zero, List.set_cons_succ]
            refine wpAnyH_take (i := 19) (oi := { dst := some 32, op := Op.load 3 (Operand.tmp 31), type := 3, pos := "l07_shift.go:108", after := #[{ on := 18, ground := Ground.data }, { on := 9, ground := Ground.guard }], guard := some (9, false) }) (v := undef) rfl (by as_aux_lemma => kernel_rfl) (by as_aux_lemma => kernel_rfl) (by as_aux_lemma => kernel_rfl) (fun _ _ _ h => h) (Or.inr ⟨by rfl, rfl⟩) (by assumption) ?_
            try simp only [Act.put, List.setIfInBounds_toArray, List.set_cons_zero, List.set_cons_succ]
            refine wpAnyH_take (i := 20) (oi := { dst := some 33, op := Op.move (Operand.tmp 1), type := 23, pos := "l07_shift.go:108", after := #[{ on := 9, ground := Ground.guard }], guard := some (9, false) }) (v := undef) rfl (by as_aux_lemma => kernel_rfl) (by as_aux_lemma => kernel_rfl) (by as_aux_lemma => kernel_rfl) (fun _ _ _ h => h) (Or.inr ⟨by rfl, rfl⟩) (by assumption) ?_
            try simp only [Act.put, List.setIfInBounds_toArray, List.set_cons_zero, List.set_cons_succ]
            refine wpAnyH_take (i := 21) (oi := { dst := some 34, op := Op.indexAddr 23 (Operand.tmp 33) (Operand.const (Value.int IntKind.i64 2)), type := 0, pos := "l07_shift.go:108", after := #[{ on := 20, ground := Ground.data }, { on := 9, ground := Ground.guard }], guard := some (9, false) }) (v := undef) rfl (by as_aux_lemma => kernel_rfl) (by as_aux_lemma => kernel_rfl) (by as_aux_lemma => kernel_rfl) (fun _ _ _ h => h) (Or.inr ⟨by rfl, rfl⟩) (by assumption) ?_
            try simp only [Act.put, List.setIfInBounds_toArray, List.set_cons_zero, List.set_cons_succ]
            refine wpAnyH_take (i := 22) (oi := { dst := some 35, op := Op.load 3 (Operand.tmp 34), type := 3, pos := "l07_shift.go:108", after := #[{ on := 21, ground := Ground.data }, { on := 9, ground := Ground.guard }], guard := some (9, false) }) (v := undef) rfl (by as_aux_lemma => kernel_rfl) (by as_aux_lemma => kernel_rfl) (by as_aux_lemma => kernel_rfl) (fun _ _ _ h => h) (Or.inr ⟨by rfl, rfl⟩) (by assumption) ?_
            try simp only [Act.put, List.setIfInBounds_toArray, List.set_cons_zero, List.set_cons_succ]
            refine wpAnyH_take (i := 23) (oi := { dst := some 36, op := Op.binOp BinOp.mul 3 (Operand.tmp 32) (Operand.tmp 35) 3, type := 3, pos := "l07_shift.go:108", after := #[{ on := 19, ground := Ground.data }, { on := 22, ground := Ground.data }, { on := 9, ground := Ground.guard }], guard := some (9, false) }) (v := undef) rfl (by as_aux_lemma => kernel_rfl) (by as_aux_lemma => kernel_rfl) (by as_aux_lemma => kernel_rfl) (fun _ _ _ h => h) (Or.inr ⟨by rfl, rfl⟩) (by assumption) ?_
            try simp only [Act.put, List.setIfInBounds_toArray, List.set_cons_zero, List.set_cons_succ]
            refine wpAnyH_take (i := 24) (oi := { dst := some 37, op := Op.binOp BinOp.sub 3 (Operand.tmp 29) (Operand.tmp 36) 3, type := 3, pos := "l07_shift.go:108", after := #[{ on := 16, ground := Ground.data }, { on := 23, ground := Ground.data }, { on := 9, ground := Ground.guard }], guard := some (9, false) }) (v := undef) rfl (by as_aux_lemma => kernel_rfl) (by as_aux_lemma => kernel_rfl) (by as_aux_lemma => kernel_rfl) (fun _ _ _ h => h) (Or.inr ⟨by rfl, rfl⟩) (by assumption) ?_
            try simp only [Act.put, List.setIfInBounds_toArray, List.set_cons_zero, List.set_cons_succ]
            refine wpAnyH_take (i := 25) (oi := { dst := some 38, op := Op.binOp BinOp.eql 3 (Operand.tmp 37) (Operand.const (Value.int IntKind.i64 0)) 3, type := 4, pos := "l07_shift.go:108", after := #[{ on := 24, ground := Ground.data }, { on := 9, ground := Ground.guard }], guard := some (9, false) }) (v := undef) rfl (by as_aux_lemma => kernel_rfl) (by as_aux_lemma => kernel_rfl) (by as_aux_lemma => kernel_rfl) (fun _ _ _ h => h) (Or.inr ⟨by rfl, rfl⟩) (by assumption) ?_
            try simp only [Act.put, List.setIfInBounds_toArray, List.set_cons_zero, List.set_cons_succ]
            refine wpAnyH_take (i := 26) (oi := { dst := some 39, op := Op.pick (Operand.tmp 22) (Operand.const (Value.bool true)) (Operand.tmp 38), type := 4, pos := "l07_shift.go:108", after := #[{ on := 9, ground := Ground.data }, { on := 25, ground := Ground.data }], guard := none }) (v := ?_) rfl (by as_aux_lemma => kernel_rfl) (by as_aux_lemma => kernel_rfl) (by as_aux_lemma => kernel_rfl) (fun _ _ _ h => h) (Or.inl ⟨by rfl, ?_⟩) (by assumption) ?_
            rotate_left
            · intro w hSw; (try dsimp only at hSw); go_simp; try (with_reducible rfl)
            try simp only [Act.put, List.setIfInBounds_toArray, List.set_cons_zero, List.set_cons_succ]
            refine wpAnyH_done (by kernel_rfl) ?_ _
            go_wp2_with fail
            go_meet
            refine ⟨by rw [HN.out]; first | rfl | (simp; done) | (simp; rfl), ?_⟩
            repeat (first | exact Below.refl _ _ | refine below_drw ?_ | refine below_to ?_ (by assumption))
      | true =>
        obtain ⟨z0, z1, z2, z3, rfl, ⟨a1, a2⟩, ⟨a3, a4⟩, ⟨a5, a6⟩, ⟨a7, a8⟩, _, _⟩ := map_four hm
        obtain ⟨rfl, g, o, rfl, k0, k1, k2, k3⟩ := zat HLM.out HZ.out
        have m0 := mul_in z0 z3 20 20 a1 a2 a7 a8
        have m1 := mul_in z1 z2 20 20 a3 a4 a5 a6
        have HN := Lib.hid (show pbkC ps [z0, z1, z2, z3] q = !decide (z0 * z3 - z1 * z2 = 0) by unfold pbkC; rw [hm, hr]; simp [detI, zg])
        rw [hm] at HI
        clear hm hr HA HZ HL HLM
        generalize e0 : z0 * z3 = u0 at *
        generalize e1 : z1 * z2 = u1 at *
        have v0 : IntKind.i64.wrap u0 = u0 := IntWalk.i64_in _ (by omega)
        have v1 : IntKind.i64.wrap u1 = u1 := IntWalk.i64_in _ (by omega)
        have v2 : IntKind.i64.wrap (u0 - u1) = u0 - u1 := IntWalk.i64_in _ (by omega)
        replace k0 := cell_to k0 bV
        replace k1 := cell_to k1 bV
        replace k2 := cell_to k2 bV
        replace k3 := cell_to k3 bV
        refine wp_region_held_drew (S := (fun w' => w'.cell? ⟨w.heap.size, 0, none⟩ = some (.slice a n ca) ∧ w'.cell? ⟨g, o, none⟩ = some (.int .i64 z0) ∧ w'.cell? ⟨g, o + 1, none⟩ = some (.int .i64 z1) ∧ w'.cell? ⟨g, o + 2, none⟩ = some (.int .i64 z2) ∧ w'.cell? ⟨g, o + 3, none⟩ = some (.int .i64 z3))) (by kernel_rfl) ?_ (fun hHeld => ?_)
        · (refine five5 q0 k0 k1 k2 k3 ?_; repeat (first | exact Below.refl _ _ | refine below_drw ?_ | refine below_to ?_ (by assumption)))
        refine wpAnyH_take (i := 0) (oi := { dst := some 13, op := Op.load 26 (Operand.tmp 3), type := 26, pos := "l07_shift.go:108", after := #[], guard := none }) (v := ?_) rfl (by as_aux_lemma => kernel_rfl) (by as_aux_lemma => kernel_rfl) (by as_aux_lemma => kernel_rfl) (fun _ _ _ h => h) (Or.inl ⟨by rfl, ?_⟩) (by assumption) ?_
        rotate_left
        · intro w hSw; (try dsimp only at hSw); go_simp; try (with_reducible rfl)
        try simp only [Act.put, List.setIfInBounds_toArray, List.set_cons_zero, List.set_cons_succ]
        refine wpAnyH_ready (rs := [1]) (by as_aux_lemma => kernel_rfl) (by simp) ?_
        refine AllReadyH.cons (o := { dst := some 14, op := Op.call { callee := Callee.value (Operand.func 123), args := #[Operand.tmp 13], argTypes := #[26] }, type := 4, pos := "l07_shift.go:108", after := #[{ on := 0, ground := Ground.data }], guard := none }) rfl (fun K hK => ?_) AllReadyH.nil
        go_simp
        (first | (go_at_call 123; (with_reducible refine (HR.out _ ?_).mono ?_); (focus (repeat (first | exact bV | refine below_drw ?_ | refine below_to ?_ (by assumption)))); rintro e v1 ⟨rfl, bl1⟩) | (go_at_call 122; (with_reducible refine (HI.out _ ?_).mono ?_); (focus (repeat (first | exact bV | refine below_drw ?_ | refine below_to ?_ (by assumption)))); rintro e v2 ⟨rfl, rfl⟩))
        try go_wp2_with fail
        refine hK.out _ _ ?_ (fun hHeld2 => ?_)
        · (refine five5 q0 k0 k1 k2 k3 ?_; repeat (first | exact Below.refl _ _ | refine below_drw ?_ | refine below_to ?_ (by assumption)))
        clear hK K hHeld
        have hHeld := hHeld2
        clear hHeld2
        try simp only [Act.put, List.setIfInBounds_toArray, List.set_cons_zero, List.set_cons_succ]
        as_aux_lemma =>
          refine wpAnyH_take (i := 2) (oi := { dst := some 15, op := Op.unOp UnOp.not 4 (Operand.tmp 14), type := 4, pos := "l07_shift.go:108", after := #[{ on := 1, ground := Ground.data }], guard := none }) (v := ?_) rfl (by as_aux_lemma => kernel_rfl) (by as_aux_lemma => kernel_rfl) (by as_aux_lemma => kernel_rfl) (fun _ _ _ h => h) (Or.inl ⟨by rfl, ?_⟩) (by assumption) ?_
          rotate_left
          · intro w hSw; (try dsimp only at hSw); go_simp; try (with_reducible rfl)
          try simp only [Act.put, List.setIfInBounds_toArray, List.set_cons_zero, List.set_cons_succ]
          refine wpAnyH_take (i := 3) (oi := { dst := some 16, op := Op.move (Operand.tmp 15), type := 4, pos := "l07_shift.go:108", after := #[{ on := 2, ground := Ground.data }, { on := 1, ground := Ground.chain }], guard := none }) (v := ?_) rfl (by as_aux_lemma => kernel_rfl) (by as_aux_lemma => kernel_rfl) (by as_aux_lemma => kernel_rfl) (fun _ _ _ h => h) (Or.inl ⟨by rfl, ?_⟩) (by assumption) ?_
          rotate_left
          · intro w hSw; (try dsimp only at hSw); go_simp; try (with_reducible rfl)
          try simp only [Act.put, List.setIfInBounds_toArray, List.set_cons_zero, List.set_cons_succ]
          refine wpAnyH_take (i := 4) (oi := { dst := some 17, op := Op.move (Operand.tmp 1), type := 23, pos := "l07_shift.go:108", after := #[{ on := 3, ground := Ground.guard }], guard := some (3, false) }) (v := ?_) rfl (by as_aux_lemma => kernel_rfl) (by as_aux_lemma => kernel_rfl) (by as_aux_lemma => kernel_rfl) (fun _ _ _ h => h) (Or.inl ⟨by rfl, ?_⟩) (by assumption) ?_
          rotate_left
          · intro w hSw; (try dsimp only at hSw); go_simp; try (with_reducible rfl)
          try simp only [Act.put, List.setIfInBounds_toArray, List.set_cons_zero, List.set_cons_succ]
          refine wpAnyH_take (i := 5) (oi := { dst := some 18, op := Op.move (Operand.tmp 2), type := 3, pos := "l07_shift.go:108", after := #[{ on := 3, ground := Ground.guard }], guard := some (3, false) }) (v := ?_) rfl (by as_aux_lemma => kernel_rfl) (by as_aux_lemma => kernel_rfl) (by as_aux_lemma => kernel_rfl) (fun _ _ _ h => h) (Or.inl ⟨by rfl, ?_⟩) (by assumption) ?_
          rotate_left
          · intro w hSw; (try dsimp only at hSw); go_simp; try (with_reducible rfl)
          try simp only [Act.put, List.setIfInBounds_toArray, List.set_cons_zero, List.set_cons_succ]
          refine wpAnyH_ready (rs := [6]) (by as_aux_lemma => kernel_rfl) (by simp) ?_
          refine AllReadyH.cons (o := { dst := some 19, op := Op.call { callee := Callee.value (Operand.func 122), args := #[Operand.tmp 17, Operand.tmp 18], argTypes := #[23, 3] }, type := 4, pos := "l07_shift.go:108", after := #[{ on := 4, ground := Ground.data }, { on := 5, ground := Ground.data }, { on := 3, ground := Ground.chain }, { on := 3, ground := Ground.guard }], guard := some (3, false) }) rfl (fun K hK => ?_) AllReadyH.nil
          go_simp
          (first | (go_at_call 123; (with_reducible refine (HR.out _ ?_).mono ?_); (focus (repeat (first | exact bV | refine below_drw ?_ | refine below_to ?_ (by assumption)))); rintro e v1 ⟨rfl, bl1⟩) | (go_at_call 122; (with_reducible refine (HI.out _ ?_).mono ?_); (focus (repeat (first | exact bV | refine below_drw ?_ | refine below_to ?_ (by assumption)))); rintro e v2 ⟨rfl, rfl⟩))
          try go_wp2_with fail
          refine hK.out _ _ ?_ (fun hHeld2 => ?_)
          · (refine five5 q0 k0 k1 k2 k3 ?_; repeat (first | exact Below.refl _ _ | refine below_drw ?_ | refine below_to ?_ (by assumption)))
          clear hK K hHeld
          have hHeld := hHeld2
          clear hHeld2
          try simp only [Act.put, List.setIfInBounds_toArray, List.set_cons_zero, List.set_cons_succ]
          as_aux_lemma =>
            refine wpAnyH_take (i := 7) (oi := { dst := some 20, op := Op.unOp UnOp.not 4 (Operand.tmp 19), type := 4, pos := "l07_shift.go:108", after := #[{ on := 6, ground := Ground.data }, { on := 3, ground := Ground.guard }], guard := some (3, false) }) (v := ?_) rfl (by as_aux_lemma => kernel_rfl) (by as_aux_lemma => kernel_rfl) (by as_aux_lemma => kernel_rfl) (fun _ _ _ h => h) (Or.inl ⟨by rfl, ?_⟩) (by assumption) ?_
            rotate_left
            · intro w hSw; (try dsimp only at hSw); go_simp; try (with_reducible rfl)
            try simp only [Act.put, List.setIfInBounds_toArray, List.set_cons_zero, List.set_cons_succ]
            refine wpAnyH_take (i := 8) (oi := { dst := some 21, op := Op.pick (Operand.tmp 16) (Operand.const (Value.bool true)) (Operand.tmp 20), type := 4, pos := "l07_shift.go:108", after := #[{ on := 3, ground := Ground.data }, { on := 7, ground := Ground.data }], guard := none }) (v := ?_) rfl (by as_aux_lemma => kernel_rfl) (by as_aux_lemma => kernel_rfl) (by as_aux_lemma => kernel_rfl) (fun _ _ _ h => h) (Or.inl ⟨by rfl, ?_⟩) (by assumption) ?_
            rotate_left
            · intro w hSw; (try dsimp only at hSw); go_simp; try (with_reducible rfl)
            try simp only [Act.put, List.setIfInBounds_toArray, List.set_cons_zero, List.set_cons_succ]
            refine wpAnyH_take (i := 9) (oi := { dst := some 22, op := Op.move (Operand.tmp 21), type := 4, pos := "l07_shift.go:108", after := #[{ on := 8, ground := Ground.data }, { on := 6, ground := Ground.chain }], guard := none }) (v := ?_) rfl (by as_aux_lemma => kernel_rfl) (by as_aux_lemma => kernel_rfl) (by as_aux_lemma => kernel_rfl) (fun _ _ _ h => h) (Or.inl ⟨by rfl, ?_⟩) (by assumption) ?_
            rotate_left
            · intro w hSw; (try dsimp only at hSw); go_simp; try (with_reducible rfl)
            try simp only [Act.put, List.setIfInBounds_toArray, List.set_cons_zero, List.set_cons_succ]
            refine wpAnyH_take (i := 10) (oi := { dst := some 23, op := Op.move (Operand.tmp 1), type := 23, pos := "l07_shift.go:108", after := #[{ on := 9, ground := Ground.guard }], guard := some (9, false) }) (v := ?_) rfl (by as_aux_lemma => kernel_rfl) (by as_aux_lemma => kernel_rfl) (by as_aux_lemma => kernel_rfl) (fun _ _ _ h => h) (Or.inl ⟨by rfl, ?_⟩) (by assumption) ?_
            rotate_left
            · intro w hSw; (try dsimp only at hSw); go_simp; try (with_reducible rfl)
            try simp only [Act.put, List.setIfInBounds_toArray, List.set_cons_zero, List.set_cons_succ]
            refine wpAnyH_take (i := 11) (oi := { dst := some 24, op := Op.indexAddr 23 (Operand.tmp 23) (Operand.const (Value.int IntKind.i64 0)), type := 0, pos := "l07_shift.go:108", after := #[{ on := 10, ground := Ground.data }, { on := 9, ground := Ground.guard }], guard := some (9, false) }) (v := ?_) rfl (by as_aux_lemma => kernel_rfl) (by as_aux_lemma => kernel_rfl) (by as_aux_lemma => kernel_rfl) (fun _ _ _ h => h) (Or.inl ⟨by rfl, ?_⟩) (by assumption) ?_
            rotate_left
            · intro w hSw; (try dsimp only at hSw); go_simp; try (with_reducible rfl)
            try simp only [Act.put, List.setIfInBounds_toArray, List.set_cons_zero, List.set_cons_succ]
            refine wpAnyH_take (i := 12) (oi := { dst := some 25, op := Op.load 3 (Operand.tmp 24), type := 3, pos := "l07_shift.go:108", after := #[{ on := 11, ground := Ground.data }, { on := 9, ground := Ground.guard }], guard := some (9, false) }) (v := ?_) rfl (by as_aux_lemma => kernel_rfl) (by as_aux_lemma => kernel_rfl) (by as_aux_lemma => kernel_rfl) (fun _ _ _ h => h) (Or.inl ⟨by rfl, ?_⟩) (by assumption) ?_
            rotate_left
            · intro w hSw; (try dsimp only at hSw); go_simp; try (with_reducible rfl)
            try simp only [Act.put, List.setIfInBounds_toArray, List.set_cons_zero, List.set_cons_succ]
            refine wpAnyH_take (i := 13) (oi := { dst := some 26, op := Op.move (Operand.tmp 1), type := 23, pos := "l07_shift.go:108", after := #[{ on := 9, ground := Ground.guard }], guard := some (9, false) }) (v := ?_) rfl (by as_aux_lemma => kernel_rfl) (by as_aux_lemma => kernel_rfl) (by as_aux_lemma => kernel_rfl) (fun _ _ _ h => h) (Or.inl ⟨by rfl, ?_⟩) (by assumption) ?_
            rotate_left
            · intro w hSw; (try dsimp only at hSw); go_simp; try (with_reducible rfl)
            try simp only [Act.put, List.setIfInBounds_toArray, List.set_cons_zero, List.set_cons_succ]
            refine wpAnyH_take (i := 14) (oi := { dst := some 27, op := Op.indexAddr 23 (Operand.tmp 26) (Operand.const (Value.int IntKind.i64 3)), type := 0, pos := "l07_shift.go:108", after := #[{ on := 13, ground := Ground.data }, { on := 9, ground := Ground.guard }], guard := some (9, false) }) (v := ?_) rfl (by as_aux_lemma => kernel_rfl) (by as_aux_lemma => kernel_rfl) (by as_aux_lemma => kernel_rfl) (fun _ _ _ h => h) (Or.inl ⟨by rfl, ?_⟩) (by assumption) ?_
            rotate_left
            · intro w hSw; (try dsimp only at hSw); go_simp; try (with_reducible rfl)
            try simp only [Act.put, List.setIfInBounds_toArray, List.set_cons_zero, List.set_cons_succ]
            refine wpAnyH_take (i := 15) (oi := { dst := some 28, op := Op.load 3 (Operand.tmp 27), type := 3, pos := "l07_shift.go:108", after := #[{ on := 14, ground := Ground.data }, { on := 9, ground := Ground.guard }], guard := some (9, false) }) (v := ?_) rfl (by as_aux_lemma => kernel_rfl) (by as_aux_lemma => kernel_rfl) (by as_aux_lemma => kernel_rfl) (fun _ _ _ h => h) (Or.inl ⟨by rfl, ?_⟩) (by assumption) ?_
            rotate_left
            · intro w hSw; (try dsimp only at hSw); go_simp; try (with_reducible rfl)
            try simp only [Act.put, List.setIfInBounds_toArray, List.set_cons_zero, List.set_cons_succ]
            refine wpAnyH_take (i := 16) (oi := { dst := some 29, op := Op.binOp BinOp.mul 3 (Operand.tmp 25) (Operand.tmp 28) 3, type := 3, pos := "l07_shift.go:108", after := #[{ on := 12, ground := Ground.data }, { on := 15, ground := Ground.data }, { on := 9, ground := Ground.guard }], guard := some (9, false) }) (v := ?_) rfl (by as_aux_lemma => kernel_rfl) (by as_aux_lemma => kernel_rfl) (by as_aux_lemma => kernel_rfl) (fun _ _ _ h => h) (Or.inl ⟨by rfl, ?_⟩) (by assumption) ?_
            rotate_left
            · intro w hSw; (try dsimp only at hSw); go_simp; try (with_reducible rfl)
            try simp only [Act.put, List.setIfInBounds_toArray, List.set_cons_zero, List.set_cons_succ]
            refine wpAnyH_take (i := 17) (oi := { dst := some 30, op := Op.move (Operand.tmp 1), type := 23, pos := "l07_shift.go:108", after := #[{ on := 9, ground := Ground.guard }], guard := some (9, false) }) (v := ?_) rfl (by as_aux_lemma => kernel_rfl) (by as_aux_lemma => kernel_rfl) (by as_aux_lemma => kernel_rfl) (fun _ _ _ h => h) (Or.inl ⟨by rfl, ?_⟩) (by assumption) ?_
            rotate_left
            · intro w hSw; (try dsimp only at hSw); go_simp; try (with_reducible rfl)
            try simp only [Act.put, List.setIfInBounds_toArray, List.set_cons_zero, List.set_cons_succ]
            refine wpAnyH_take (i := 18) (oi := { dst := some 31, op := Op.indexAddr 23 (Operand.tmp 30) (Operand.const (Value.int IntKind.i64 1)), type := 0, pos := "l07_shift.go:108", after := #[{ on := 17, ground := Ground.data }, { on := 9, ground := Ground.guard }], guard := some (9, false) }) (v := ?_) rfl (by as_aux_lemma => kernel_rfl) (by as_aux_lemma => kernel_rfl) (by as_aux_lemma => kernel_rfl) (fun _ _ _ h => h) (Or.inl ⟨by rfl, ?_⟩) (by assumption) ?_
            rotate_left
            · intro w hSw; (try dsimp only at hSw); go_simp; try (with_reducible rfl)
            try simp only [Act.put, List.setIfInBounds_toArray, List.set_cons_zero, List.set_cons_succ]
            as_aux_lemma =>
              refine wpAnyH_take (i := 19) (oi := { dst := some 32, op := Op.load 3 (Operand.tmp 31), type := 3, pos := "l07_shift.go:108", after := #[{ on := 18, ground := Ground.data }, { on := 9, ground := Ground.guard }], guard := some (9, false) }) (v := ?_) rfl (by as_aux_lemma => kernel_rfl) (by as_aux_lemma => kernel_rfl) (by as_aux_lemma => kernel_rfl) (fun _ _ _ h => h) (Or.inl ⟨by rfl, ?_⟩) (by assumption) ?_
              rotate_left
              · intro w hSw; (try dsimp only at hSw); go_simp; try (with_reducible rfl)
              try simp only [Act.put, List.setIfInBounds_toArray, List.set_cons_zero, List.set_cons_succ]
              refine wpAnyH_take (i := 20) (oi := { dst := some 33, op := Op.move (Operand.tmp 1), type := 23, pos := "l07_shift.go:108", after := #[{ on := 9, ground := Ground.guard }], guard := some (9, false) }) (v := ?_) rfl (by as_aux_lemma => kernel_rfl) (by as_aux_lemma => kernel_rfl) (by as_aux_lemma => kernel_rfl) (fun _ _ _ h => h) (Or.inl ⟨by rfl, ?_⟩) (by assumption) ?_
              rotate_left
              · intro w hSw; (try dsimp only at hSw); go_simp; try (with_reducible rfl)
              try simp only [Act.put, List.setIfInBounds_toArray, List.set_cons_zero, List.set_cons_succ]
              refine wpAnyH_take (i := 21) (oi := { dst := some 34, op := Op.indexAddr 23 (Operand.tmp 33) (Operand.const (Value.int IntKind.i64 2)), type := 0, pos := "l07_shift.go:108", after := #[{ on := 20, ground := Ground.data }, { on := 9, ground := Ground.guard }], guard := some (9, false) }) (v := ?_) rfl (by as_aux_lemma => kernel_rfl) (by as_aux_lemma => kernel_rfl) (by as_aux_lemma => kernel_rfl) (fun _ _ _ h => h) (Or.inl ⟨by rfl, ?_⟩) (by assumption) ?_
              rotate_left
              · intro w hSw; (try dsimp only at hSw); go_simp; try (with_reducible rfl)
              try simp only [Act.put, List.setIfInBounds_toArray, List.set_cons_zero, List.set_cons_succ]
              refine wpAnyH_take (i := 22) (oi := { dst := some 35, op := Op.load 3 (Operand.tmp 34), type := 3, pos := "l07_shift.go:108", after := #[{ on := 21, ground := Ground.data }, { on := 9, ground := Ground.guard }], guard := some (9, false) }) (v := ?_) rfl (by as_aux_lemma => kernel_rfl) (by as_aux_lemma => kernel_rfl) (by as_aux_lemma => kernel_rfl) (fun _ _ _ h => h) (Or.inl ⟨by rfl, ?_⟩) (by assumption) ?_
              rotate_left
              · intro w hSw; (try dsimp only at hSw); go_simp; try (with_reducible rfl)
              try simp only [Act.put, List.setIfInBounds_toArray, List.set_cons_zero, List.set_cons_succ]
              refine wpAnyH_take (i := 23) (oi := { dst := some 36, op := Op.binOp BinOp.mul 3 (Operand.tmp 32) (Operand.tmp 35) 3, type := 3, pos := "l07_shift.go:108", after := #[{ on := 19, ground := Ground.data }, { on := 22, ground := Ground.data }, { on := 9, ground := Ground.guard }], guard := some (9, false) }) (v := ?_) rfl (by as_aux_lemma => kernel_rfl) (by as_aux_lemma => kernel_rfl) (by as_aux_lemma => kernel_rfl) (fun _ _ _ h => h) (Or.inl ⟨by rfl, ?_⟩) (by assumption) ?_
              rotate_left
              · intro w hSw; (try dsimp only at hSw); go_simp; try (with_reducible rfl)
              try simp only [Act.put, List.setIfInBounds_toArray, List.set_cons_zero, List.set_cons_succ]
              refine wpAnyH_take (i := 24) (oi := { dst := some 37, op := Op.binOp BinOp.sub 3 (Operand.tmp 29) (Operand.tmp 36) 3, type := 3, pos := "l07_shift.go:108", after := #[{ on := 16, ground := Ground.data }, { on := 23, ground := Ground.data }, { on := 9, ground := Ground.guard }], guard := some (9, false) }) (v := ?_) rfl (by as_aux_lemma => kernel_rfl) (by as_aux_lemma => kernel_rfl) (by as_aux_lemma => kernel_rfl) (fun _ _ _ h => h) (Or.inl ⟨by rfl, ?_⟩) (by assumption) ?_
              rotate_left
              · intro w hSw; (try dsimp only at hSw); go_simp; try (with_reducible rfl)
              try simp only [Act.put, List.setIfInBounds_toArray, List.set_cons_zero, List.set_cons_succ]
              refine wpAnyH_take (i := 25) (oi := { dst := some 38, op := Op.binOp BinOp.eql 3 (Operand.tmp 37) (Operand.const (Value.int IntKind.i64 0)) 3, type := 4, pos := "l07_shift.go:108", after := #[{ on := 24, ground := Ground.data }, { on := 9, ground := Ground.guard }], guard := some (9, false) }) (v := ?_) rfl (by as_aux_lemma => kernel_rfl) (by as_aux_lemma => kernel_rfl) (by as_aux_lemma => kernel_rfl) (fun _ _ _ h => h) (Or.inl ⟨by rfl, ?_⟩) (by assumption) ?_
              rotate_left
              · intro w hSw; (try dsimp only at hSw); go_simp; try (with_reducible rfl)
              try simp only [Act.put, List.setIfInBounds_toArray, List.set_cons_zero, List.set_cons_succ]
              refine wpAnyH_take (i := 26) (oi := { dst := some 39, op := Op.pick (Operand.tmp 22) (Operand.const (Value.bool true)) (Operand.tmp 38), type := 4, pos := "l07_shift.go:108", after := #[{ on := 9, ground := Ground.data }, { on := 25, ground := Ground.data }], guard := none }) (v := ?_) rfl (by as_aux_lemma => kernel_rfl) (by as_aux_lemma => kernel_rfl) (by as_aux_lemma => kernel_rfl) (fun _ _ _ h => h) (Or.inl ⟨by rfl, ?_⟩) (by assumption) ?_
              rotate_left
              · intro w hSw; (try dsimp only at hSw); go_simp; try (with_reducible rfl)
              try simp only [Act.put, List.setIfInBounds_toArray, List.set_cons_zero, List.set_cons_succ]
              refine wpAnyH_done (by kernel_rfl) ?_ _
              go_wp2_with fail
              go_meet
              refine ⟨by rw [HN.out]; first | rfl | (simp; done) | (simp; rfl), ?_⟩
              repeat (first | exact Below.refl _ _ | refine below_drw ?_ | refine below_to ?_ (by assumption))
  case rest =>
    obtain ⟨rfl, blc⟩ := hcut
    have b1 := below_to bV blc
    have r0 := cell_to q0 blc
    have r1 := cell_to q1 blc
    have s1 := (blc.frozen (block_lt_of_cell q1)).trans f1
    clear bV blc q0 q1 f1 HR HI
    rename World => w1
    cases hcb : (!pbkC ps zs q) with
    | true =>
      have hc : pbkC ps zs q = false := by simpa using hcb
      clear hcb
      have HN := Lib.hid (pbk_no hc)
      clear hc
      go_wp2_with fail
      exact bodyPost_ret (v := .tuple #[.agg #[.slice none 0 0], .bool false]) (by simp [results, Tryz.results152, go_sem, r1]) rfl (AnsR.no HN.out.1 HN.out.2 (b1.setCell (p := ⟨w.heap.size + 1, 0, none⟩) (Nat.le_add_right _ _) _))
    | false =>
      have hc : pbkC ps zs q = true := by simpa using hcb
      clear hcb
      have HY := Lib.hid (pbk_yes hc)
      have hc2 := hc
      unfold pbkC at hc2
      simp only [Bool.and_eq_true] at hc2
      obtain ⟨⟨hm, _⟩, hr⟩ := hc2
      have hok := rok_all hr
      have h40 := rok_len hr
      obtain ⟨z0, z1, z2, z3, rfl, ⟨a1, a2⟩, ⟨a3, a4⟩, ⟨a5, a6⟩, ⟨a7, a8⟩, c1, c2⟩ := map_four hm
      obtain ⟨rfl, g, o, rfl, k0, k1, k2, k3⟩ := zat HLM.out HZ.out
      have HB := Lib.hid (fun (h : H3) (k : h ∈ ps) => pb_in ⟨a1, a2⟩ ⟨a3, a4⟩ ⟨a5, a6⟩ ⟨a7, a8⟩ c1 c2 (hok h k))
      have hn40 : n ≤ 40 := by rw [← HL.out]; exact h40
      clear hm hr hok h40 hc a1 a2 a3 a4 a5 a6 a7 a8 c1 c2 HZ HLM
      have HPB := Lib.hid (show pbB [z0, z1, z2, z3] q = fun h => hasH (h.a * z0 + h.b * z2) (h.a * z1 + h.b * z3) (h.c * q) from rfl)
      have HPM := Lib.hid (show pbM [z0, z1, z2, z3] q = fun h => redH (h.a * z0 + h.b * z2) (h.a * z1 + h.b * z3) (h.c * q) from rfl)
      have HPO := Lib.hid (pb_ok [z0, z1, z2, z3] q)
      generalize pbB [z0, z1, z2, z3] q = B at *
      generalize pbM [z0, z1, z2, z3] q = M at *
      have HO2 := Lib.hid (own3_empty' (B := w.heap.size + 2) w1 (b := w1.heap.size) rfl (by have := block_lt_of_cell r1; simp only at this; omega))
      have bW := below_bx2 b1 (.cells #[] 39)
      have lw1 : w.heap.size + 1 < w1.heap.size := block_lt_of_cell r1
      have e0 := cell_to r0 (below_one w1 (.cells #[] 39))
      have e1 := cell_to r1 (below_one w1 (.cells #[] 39))
      have e2 := ((below_one w1 (.cells #[] 39)).frozen (block_lt_of_cell r1)).trans s1
      have J0 := Lib.hid (fun (W : World) (h : Below w.heap.size w W) => cell_to k0 h)
      have J1 := Lib.hid (fun (W : World) (h : Below w.heap.size w W) => cell_to k1 h)
      have J2 := Lib.hid (fun (W : World) (h : Below w.heap.size w W) => cell_to k2 h)
      have J3 := Lib.hid (fun (W : World) (h : Below w.heap.size w W) => cell_to k3 h)
      have lg := block_lt_of_cell k0
      simp only at lg
      clear k0 k1 k2 k3
      go_wp2
      generalize w1.alloc (.cells #[] 39) = V at *
      go_loopw [8, 45] (fun v i wr => ∃ (k : Nat) (ao : Option Addr) (cp : Nat), k ≤ n ∧ i = .int .i64 k ∧ v = .slice ao k cp ∧ (ps.take k).all B = true ∧ wr.ownsRow (w.heap.size + 2) 39 3 (.slice ao k cp) k (flat ((ps.take k).map M)) ∧ Below w.heap.size w wr ∧ wr.cell? ⟨w.heap.size, 0, none⟩ = some (.slice a n ca) ∧ wr.cell? ⟨w.heap.size + 1, 0, none⟩ = some (.slice none 0 0) ∧ wr.frozen? ⟨w.heap.size + 1, 0, none⟩ = false ∧ w.heap.size + 2 ≤ wr.heap.size) (fun _ i _ => n - (intOf i).toNat)
      case atStart => exact ⟨0, _, 0, Nat.zero_le _, rfl, rfl, by simp, by simpa using HO2.out, bW, e0, e1, e2, by have := bW.size; have := block_lt_of_cell e1; simp only at this; omega⟩
      case round =>
        obtain ⟨k, ao, cp, hk, rfl, rfl, hall, hov, hbw, r0', r1', s1', hz⟩ := hrel
        have H0 := Lib.hid hov
        have HT := Lib.hid hall
        have zV := bW.size
        clear hov hall e0 e1 e2
        by_cases hlt : k < n
        · obtain ⟨⟨xa, xb, xc⟩, hx⟩ : ∃ x, ps[k]? = some x := ⟨_, List.getElem?_eq_getElem (by rw [HL.out]; exact hlt)⟩
          have HX := Lib.hid hx
          obtain ⟨g', o', rfl, hcx⟩ := HA.out k _ hx
          obtain ⟨t1, t2, t3⟩ := hcx.to hbw
          obtain ⟨⟨m1, m2⟩, ⟨m3, m4⟩, ⟨m5, m6⟩, ⟨m7, m8⟩, m9, m10⟩ := HB.out _ (List.mem_of_getElem? hx)
          simp only at t1 t2 t3 m1 m2 m3 m4 m5 m6 m7 m8 m9 m10
          have HH := Lib.hid (fun W => spec_hof (xa * z0 + xb * z2) (xa * z1 + xb * z3) (xc * q) W (by omega) (by omega) (by omega) (by omega) (by omega) (by omega))
          have HSB := Lib.hid (show hasH (xa * z0 + xb * z2) (xa * z1 + xb * z3) (xc * q) = B ⟨xa, xb, xc⟩ by rw [HPB.out])
          have HSM := Lib.hid (show redH (xa * z0 + xb * z2) (xa * z1 + xb * z3) (xc * q) = M ⟨xa, xb, xc⟩ by rw [HPM.out])
          rw [ans_red, HSB.out, HSM.out] at HH
          obtain ⟨⟨qa, qb, qc⟩, hq⟩ : ∃ q, M ⟨xa, xb, xc⟩ = q := ⟨_, rfl⟩
          have HQ := Lib.hid hq
          rw [hq] at HH
          simp only at HH
          obtain ⟨rB, hrB⟩ : ∃ b, B ⟨xa, xb, xc⟩ = b := ⟨_, rfl⟩
          rw [hrB] at HH
          have HRB := Lib.hid hrB
          clear hx hcx hq HSB HSM hrB
          generalize eu1 : xa * z0 = u0 at *
          generalize eu2 : xb * z2 = u1 at *
          generalize eu3 : xa * z1 = u2 at *
          generalize eu4 : xb * z3 = u3 at *
          generalize eu5 : xc * q = u4 at *
          have w0' : IntKind.i64.wrap u0 = u0 := IntWalk.i64_in _ (by omega)
          have w1' : IntKind.i64.wrap u1 = u1 := IntWalk.i64_in _ (by omega)
          have w2' : IntKind.i64.wrap u2 = u2 := IntWalk.i64_in _ (by omega)
          have w3' : IntKind.i64.wrap u3 = u3 := IntWalk.i64_in _ (by omega)
          have w4' : IntKind.i64.wrap u4 = u4 := IntWalk.i64_in _ (by omega)
          have w5' : IntKind.i64.wrap (u0 + u1) = u0 + u1 := IntWalk.i64_in _ (by omega)
          have w6' : IntKind.i64.wrap (u2 + u3) = u2 + u3 := IntWalk.i64_in _ (by omega)
          have bX := below_one wr (.cells #[.int .i64 xa, .int .i64 xb, .int .i64 xc] 39)
          have bx := below_bx2 hbw (.cells #[.int .i64 xa, .int .i64 xb, .int .i64 xc] 39)
          obtain ⟨y1, y2, y3⟩ := tri_new wr (.int .i64 xa) (.int .i64 xb) (.int .i64 xc) 39
          simp only [Nat.zero_add] at y1 y2 y3
          have d0 := cell_to (J0.out wr hbw) bX
          have d1 := cell_to (J1.out wr hbw) bX
          have d2 := cell_to (J2.out wr hbw) bX
          have d3 := cell_to (J3.out wr hbw) bX
          have c0 := cell_to r0' bX
          have c1 := cell_to r1' bX
          have c2 := (bX.frozen (block_lt_of_cell r1')).trans s1'
          have H1 := Lib.hid (own_below H0.out bX)
          have zx := bX.size
          clear r0' r1' s1' H0
          go_wp2
          generalize wr.alloc (.cells #[.int .i64 xa, .int .i64 xb, .int .i64 xc] 39) = X at *
          go_cut [11, 12] from 50 to 82 (fun s11 s12 wx => BoxH X qa qb qc s11 wx ∧ s12 = .bool rB)
          case first =>
            clear c0 c1 c2 t1 t2 t3 m1 m2 m3 m4 m5 m6 m7 m8 m9 m10
            go_region_held3 (fun w' => w'.cell? ⟨g, o, none⟩ = some (.int .i64 z0) ∧ w'.cell? ⟨g, o + 1, none⟩ = some (.int .i64 z1) ∧ w'.cell? ⟨g, o + 2, none⟩ = some (.int .i64 z2) ∧ w'.cell? ⟨g, o + 3, none⟩ = some (.int .i64 z3) ∧ w'.cell? ⟨wr.heap.size, 0, none⟩ = some (.int .i64 xa) ∧ w'.cell? ⟨wr.heap.size, 1, none⟩ = some (.int .i64 xb) ∧ w'.cell? ⟨wr.heap.size, 2, none⟩ = some (.int .i64 xc))
              ((refine seven8 d0 d1 d2 d3 y1 y2 y3 ?_; repeat (first | exact Below.refl _ _ | refine Below.setCell ?_ (by first | (simp; done) | (simp; omega)) _ | refine below_bx2 ?_ _ | refine below_drw ?_ | refine below_to ?_ (by assumption))))
              ((go_at_call 95; (with_reducible refine (HH.out _).mono ?_); rintro e wC ⟨rfl, blC⟩; obtain ⟨hcC, hfC⟩ := bcl3 blC; have hsC := blC.size; (try simp at hsC)))
            all_goals
              go_wp2_with fail
              go_meet
              refine ⟨?_, rfl⟩
              have hbC : Below X.heap.size X wC := by first | exact below_to (below_drw (Below.refl _ _)) blC | exact below_to (below_drw (below_bx2 (Below.refl _ _) _)) blC | exact below_to (below_bx2 (below_drw (Below.refl _ _)) _) blC | exact below_to (below_bx2 (Below.refl _ _) _) blC
              first
                | with_reducible exact BoxH.last hbC
                | exact BoxH.early (U := X) (x := 0) (y := 0) (z := 0) (by first | exact blC | exact below_to (below_drw (Below.refl _ _)) blC) (Nat.le_refl _) hbC
                | exact BoxH.early (U := X.drew) (x := 0) (y := 0) (z := 0) (by first | exact blC | exact below_to (below_drw (Below.refl _ _)) blC) (Nat.le_refl _) hbC
          case rest =>
            obtain ⟨⟨gq, rfl, hgq, kq, bq⟩, rfl⟩ := hcut
            rename World => w4
            have b4 := below_to bx bq
            have e0 := cell_to c0 bq
            have e1 := cell_to c1 bq
            have e2 : w4.frozen? ⟨w.heap.size + 1, 0, none⟩ = false := (bq.frozen (block_lt_of_cell c1)).trans c2
            have H4 := Lib.hid (own_below H1.out bq)
            have z4 := bq.size
            clear bx bX bq c0 c1 c2 H1 HH t1 t2 t3 y1 y2 y3 d0 d1 d2 d3 hbw w0' w1' w2' w3' w4' w5' w6' eu1 eu2 eu3 eu4 eu5
            cases rB with
            | false =>
              have HN := Lib.hid (mv_no (B := B) (M := M) (fu := []) HX.out HRB.out)
              have HYN := Lib.hid (⟨HY.out.1.trans HN.out.1, HY.out.2.trans HN.out.2⟩ : _ ∧ _)
              go_wp2_with fail
              exact bodyPost_ret (v := .tuple #[.agg #[.slice none 0 0], .bool false]) (by simp [results, Tryz.results152, go_sem, e1]) rfl (AnsR.no HYN.out.1 HYN.out.2 (b4.setCell (p := ⟨w.heap.size + 1, 0, none⟩) (Nat.le_add_right _ _) _))
            | true =>
              have HT2 := Lib.hid (mv_take HX.out HRB.out HT.out)
              have HS := Lib.hid (show (ps.take (k + 1)).map M = (ps.take k).map M ++ [⟨qa, qb, qc⟩] by have := mv_step (M := M) (fu := []) HX.out; rw [HQ.out] at this; simpa using this)
              have bZ := below_one w4 (.cells #[.int .i64 qa, .int .i64 qb, .int .i64 qc] 39)
              have HZZ := Lib.hid bZ
              have b5 := below_to b4 bZ
              have v1 := kq.cell0 (i := 0) (v := .int .i64 qa) rfl
              have v2 := kq.cell0 (i := 1) (v := .int .i64 qb) rfl
              have v3 := kq.cell0 (i := 2) (v := .int .i64 qc) rfl
              have HN1 := heap_alloc_new w4 (.cells #[.int .i64 qa, .int .i64 qb, .int .i64 qc] 39)
              have H5 := Lib.hid (own_below H4.out bZ)
              clear bZ
              go_wp2_with (at_builtin; refine wpList_append_lies _ rfl _ _ 24 rfl (w.heap.size + 2) 39 i0 (.agg #[.int .i64 0, .int .i64 0, .int .i64 0]) 3 24 Tryz.underlying24 hi hz0 hz1 hz2 rfl (by decide) (.slice ao k cp) k _ rfl H5.out ⟨w4.heap.size, 0, none⟩ 1 1 [.int .i64 qa, .int .i64 qb, .int .i64 qc] rfl rfl (World.news_of_block (cs := #[.int .i64 qa, .int .i64 qb, .int .i64 qc]) (t := 39) (fr := (0, 0)) HN1) (by simp [Value.oneCell']) (by omega) (by unfold maxLen; omega) (by omega) (by simp; omega) _ rfl ?_; intro gg cap' w7 hown7 hgrow hat hlt7; have H7 := Lib.hid hown7; have HG := Lib.hid hgrow; clear hown7 hgrow hat)
              have b7 : Below w.heap.size w w7 := b5.grown HG.out b5.size (fun p hp => Nat.le_trans (Nat.le_add_right _ _) (own_base_le H5.out hp))
              have far : ∀ q, q < w.heap.size + 2 → some q ≠ (Value.slice ao k cp).ownBlock := fun q hq e => by have := own_base_le H5.out e.symm; omega
              have e0' := cell_far (cell_to e0 HZZ.out) HG.out (far w.heap.size (by omega))
              have e1' := cell_far (cell_to e1 HZZ.out) HG.out (far (w.heap.size + 1) (by omega))
              have e2' : w7.frozen? ⟨w.heap.size + 1, 0, none⟩ = false := by
                rw [World.frozen?_of_block (HG.out.block _ (block_lt_of_cell (cell_to e1 HZZ.out)) (far (w.heap.size + 1) (by omega))), HZZ.out.frozen (block_lt_of_cell e1)]
                exact e2
              have z7 : w.heap.size + 2 ≤ w7.heap.size := by
                have := HG.out.size
                have := HZZ.out.size
                omega
              go_roundw
              case rel =>
                exact ⟨k + 1, _, _, by omega, by go_num, rfl, HT2.out, by rw [HS.out, flat_app]; exact H7.out, b7, e0', e1', e2', z7⟩
              case measure => simp [intOf]; omega
        · obtain rfl : k = n := by omega
          have HE := Lib.hid (show ps.take k = ps from List.take_of_length_le (by rw [HL.out]; exact Nat.le_refl _))
          rw [HE.out] at HT H0
          have l1' := block_lt_of_cell r1'
          simp only at l1'
          clear HE
          by_cases h0 : k = 0
          · have HN := Lib.hid (mv_nil (B := B) (M := M) (fu := []) (len_nil HL.out h0))
            have HYN := Lib.hid (⟨HY.out.1.trans HN.out.1, HY.out.2.trans HN.out.2⟩ : _ ∧ _)
            have hb0 : ((k : Int) == 0) = true := by subst h0; rfl
            go_wp2_with fail
            exact bodyPost_ret (v := .tuple #[.agg #[.slice none 0 0], .bool true]) (by simp [results, Tryz.results152, go_sem, r1']) rfl (AnsR.no HYN.out.1 HYN.out.2 (hbw.setCell (p := ⟨w.heap.size + 1, 0, none⟩) (Nat.le_add_right _ _) _))
          · have HN := Lib.hid (mv_yes (B := B) (M := M) (fu := []) (len_ne HL.out h0) HT.out)
            rw [List.nil_append] at HN
            have HYN := Lib.hid (⟨HY.out.1.trans HN.out.1, HY.out.2.trans HN.out.2⟩ : _ ∧ _)
            have HNN := Lib.hid (show (ps.map M).length = k by rw [List.length_map, HL.out])
            have hb0 : ((k : Int) == 0) = false := eq_b (by omega)
            go_wp2_with fail
            refine (spec_fit ao k cp (ps.map M) wr HNN.out (by omega) (map_ok HPO.out HT.out) (own_nil H0.out) (own_hs H0.out)).mono ?_
            rintro e w6 ⟨ad, cd, rfl, ho6, bl6⟩
            have b6 := below_to hbw bl6
            have p1 := cell_to r1' bl6
            have g1 : w6.frozen? ⟨w.heap.size + 1, 0, none⟩ = false := by rw [bl6.frozen l1']; exact s1'
            have H6 := Lib.hid ho6
            clear ho6 bl6
            have zb := hbw.size
            generalize regE (ps.map M) = LL at *
            generalize LL.length = len at *
            have HF := Lib.hid (AnsR.yes HYN.out.1.symm HYN.out.2 (own_base (own_far (p := ⟨w.heap.size + 1, 0, none⟩) H6.out l1' (.slice ad len cd)) zb) (b6.setCell (p := ⟨w.heap.size + 1, 0, none⟩) (Nat.le_add_right _ _) (.slice ad len cd)))
            go_wp2_with fail
            exact bodyPost_ret (v := .tuple #[.agg #[.slice ad len cd], .bool (okF (ps.map M))]) (by simp [results, Tryz.results152, go_sem, p1]) rfl HF.out
end Go.Proofs.YtdjjncofahnaaaaGreat
