/- ShiftRegion of the program and of the model over the translation. -/
import Derived.Test.YtckfmgldgjnepabSh
import Derived.Shelf.Abstract
namespace Go.Proofs.Ytckfmgldgjnepab
open Go.RowKit Go.Shelf
open Geo (H3)

set_option maxHeartbeats 1600000 in
/-- the program's move of an edge -/
theorem sh_call (p q : Nat) (dx dy : Int) (h : H3) (w : World) (hx : In2k dx) (hy : In2k dy) (k : okB h = true) (c1 : w.cell? ⟨p, 0, none⟩ = some (.int .i64 dx)) (c2 : w.cell? ⟨q, 0, none⟩ = some (.int .i64 dy)) :
    Calls Try.prog 39 #[.agg #[.int .i64 h.a, .int .i64 h.b, .int .i64 h.c], .pointer (some ⟨p, 0, none⟩), .pointer (some ⟨q, 0, none⟩)] w fun e w' => e = .returned (.tuple #[.agg #[.int .i64 (shM dx dy h).a, .int .i64 (shM dx dy h).b, .int .i64 (shM dx dy h).c], .bool (shB dx dy h)]) ∧ Below w.heap.size w w' := by
  obtain ⟨⟨m1, m2⟩, ⟨m3, m4⟩, ⟨a1, a2⟩, ⟨b1, b2⟩, d1, d2⟩ := sh_in hx hy k
  have HH := Lib.hid (fun W => impl_hof h.a h.b (h.c + h.a * dx + h.b * dy) W (by omega) (by omega) (by omega) (by omega) (by omega) (by omega))
  rw [ans_red, show hasH h.a h.b (h.c + h.a * dx + h.b * dy) = shB dx dy h from rfl, show redH h.a h.b (h.c + h.a * dx + h.b * dy) = shM dx dy h from rfl] at HH
  generalize shB dx dy h = r at *
  generalize shM dx dy h = s at *
  obtain ⟨xa, xb, xc⟩ := h
  obtain ⟨sa, sb, sc⟩ := s
  simp only at HH m1 m2 m3 m4 a1 a2 b1 b2 d1 d2 ⊢
  have l1 := block_lt_of_cell c1
  have l2 := block_lt_of_cell c2
  simp only at l1 l2
  have bV := below_bx2 (below_one w (.cells #[.int .i64 xa, .int .i64 xb, .int .i64 xc] 61)) (.cells #[.int .i64 0, .int .i64 0, .int .i64 0] 61)
  have e1 := cell_to c1 bV
  have e2 := cell_to c2 bV
  have T0 := has3_new (w.alloc (.cells #[.int .i64 xa, .int .i64 xb, .int .i64 xc] 61)) (.int .i64 0) (.int .i64 0) (.int .i64 0) 61
  rw [show (w.alloc (.cells #[.int .i64 xa, .int .i64 xb, .int .i64 xc] 61)).heap.size = w.heap.size + 1 by simp] at T0
  generalize eu1 : xa * dx = u1 at *
  generalize eu2 : xb * dy = u2 at *
  have u3 : -9223372036854775808 ≤ xc + u1 ∧ xc + u1 ≤ 9223372036854775807 := by omega
  clear k
  go_enter Try.func39, Try.ntmps39
  go_wp2_with fail
  refine (HH.out _).mono ?_
  rintro e w1 ⟨rfl, bl1⟩
  have b3 := below_to bV bl1
  obtain ⟨t1, t2, t3, f1, f2, f3⟩ := has3_to bl1 T0
  clear bl1 HH e1 e2 T0
  go_wp2_with fail
  exact bodyPost_ret (v := .tuple #[.agg #[.int .i64 sa, .int .i64 sb, .int .i64 sc], .bool r]) (by simp [results, Try.results39, go_sem, t1, t2, t3]) rfl ⟨rfl, ((b3.setCell (p := ⟨w.heap.size + 1, 0, none⟩) (by simp) _).setCell (p := ⟨w.heap.size + 1, 1, none⟩) (by simp) _).setCell (p := ⟨w.heap.size + 1, 2, none⟩) (by simp) _⟩
/-- what ShiftRegion answers -/
def shiB (ps : List H3) (dx dy : Int) : Bool := inB dx (-2000) 2000 && inB dy (-2000) 2000 && rokB ps && mvB (shB dx dy) (shM dx dy) [] ps
def shiL (ps : List H3) (dx dy : Int) : List H3 := if inB dx (-2000) 2000 = true ∧ inB dy (-2000) 2000 = true ∧ rokB ps = true then mvL (shB dx dy) (shM dx dy) [] ps else []
theorem shi_no {ps : List H3} {dx dy : Int} (h : inB dx (-2000) 2000 = false ∨ inB dy (-2000) 2000 = false ∨ rokB ps = false) : shiL ps dx dy = [] ∧ shiB ps dx dy = false := by
  refine ⟨?_, ?_⟩
  · unfold shiL; rw [if_neg]; rintro ⟨a, b, c⟩; rcases h with h | h | h <;> simp_all
  · unfold shiB; rcases h with h | h | h <;> simp [h]
theorem shi_yes {ps : List H3} {dx dy : Int} (h1 : inB dx (-2000) 2000 = true) (h2 : inB dy (-2000) 2000 = true) (h3 : rokB ps = true) : shiL ps dx dy = mvL (shB dx dy) (shM dx dy) [] ps ∧ shiB ps dx dy = mvB (shB dx dy) (shM dx dy) [] ps :=
  ⟨if_pos ⟨h1, h2, h3⟩, by unfold shiB; rw [h1, h2, h3]; simp⟩
theorem in2_of {d : Int} (h : inB d (-2000) 2000 = true) : In2k d := by unfold inB at h; simpa [In2k] using h
theorem mvL_len (B : H3 → Bool) (M : H3 → H3) (fu ps : List H3) : (mvL B M fu ps).length ≤ 40 := by
  unfold mvL
  split
  · rename_i h
    obtain ⟨h, n⟩ := h
    unfold mvB at h
    simp only [n, decide_false, Bool.false_or, Bool.and_eq_true] at h
    unfold okF at h
    simp only [Bool.and_eq_true, decide_eq_true_eq] at h
    exact h.2.2
  · simp
theorem AnsR.to {w V w' : World} {L M : List H3} {b c : Bool} {e : Ending} (h : AnsR V M c e w') (hL : L = M) (hb : b = c) (hV : Below w.heap.size w V) : AnsR w L b e w' := by
  subst hL; subst hb
  obtain ⟨ao, cp, e1, ho, hbl⟩ := h
  exact ⟨ao, cp, e1, own_base ho hV.size, below_to hV hbl⟩
theorem AnsR.put {w V w' : World} {L M : List H3} {b c : Bool} {ao : Option Addr} {m cp : Nat} {p : Addr} (ho : w'.ownsRow V.heap.size 61 3 (.slice ao m cp) m (flat M)) (hL : L = M) (hb : b = c) (hV : Below w.heap.size w V) (hbl : Below V.heap.size V w') (hp : p.block < V.heap.size) (hw : w.heap.size ≤ p.block) : AnsR w L b (.returned (.tuple #[.agg #[.slice ao m cp], .bool c])) (w'.setCell p (.slice ao m cp)) :=
  AnsR.yes hL.symm hb (own_base (own_far ho hp _) hV.size) ((below_to hV hbl).setCell hw _)
set_option maxRecDepth 100000 in
set_option maxHeartbeats 1600000 in
theorem impl_shiftr (a : Option Addr) (n ca : Nat) (ps : List H3) (dx dy : Int) (w : World) (hl : ps.length = n) (hn : n ≤ 1048576) (h64 : ∀ h ∈ ps, In64 h) (_ix : -9223372036854775808 ≤ dx ∧ dx ≤ 9223372036854775807) (_iy : -9223372036854775808 ≤ dy ∧ dy ≤ 9223372036854775807) (_hz : a = none → n = 0 ∧ ca = 0) (hA : HsAt w a ps) :
    Calls Try.prog 12 #[.agg #[.slice a n ca], .int .i64 dx, .int .i64 dy] w (AnsR w (shiL ps dx dy) (shiB ps dx dy)) := by
  have bV := below_bx2 (below_bx2 (below_bx2 (below_one w (.cells #[.slice a n ca] 28)) (.cells #[.int .i64 dx] 3)) (.cells #[.int .i64 dy] 3)) (.cells #[.slice none 0 0] 28)
  have q0 := cell_to (show (w.alloc (.cells #[.slice a n ca] 28)).cell? ⟨w.heap.size, 0, none⟩ = some (.slice a n ca) by simp) (below_bx2 (below_bx2 (below_one _ (.cells #[.int .i64 dx] 3)) (.cells #[.int .i64 dy] 3)) (.cells #[.slice none 0 0] 28))
  have q1 := cell_to (box_one (U := w.alloc (.cells #[.slice a n ca] 28)) (b := w.heap.size + 1) (by simp) (.int .i64 dx) 3).1 (below_bx2 (below_one _ (.cells #[.int .i64 dy] 3)) (.cells #[.slice none 0 0] 28))
  have q2 := cell_to (box_one (U := (w.alloc (.cells #[.slice a n ca] 28)).alloc (.cells #[.int .i64 dx] 3)) (b := w.heap.size + 2) (by simp) (.int .i64 dy) 3).1 (below_one _ (.cells #[.slice none 0 0] 28))
  obtain ⟨q3, f3⟩ := box_one (U := ((w.alloc (.cells #[.slice a n ca] 28)).alloc (.cells #[.int .i64 dx] 3)).alloc (.cells #[.int .i64 dy] 3)) (b := w.heap.size + 3) (by simp) (.slice none 0 0) 28
  have HR := Lib.hid (fun V (h : Below w.heap.size w V) => impl_rok a n ca ps V hl hn h64 (hA.below h))
  have HA := Lib.hid hA
  have HL := Lib.hid hl
  clear hl hA h64
  go_enter Try.func12, Try.ntmps12
  go_wp2_with fail
  generalize (((w.alloc (.cells #[.slice a n ca] 28)).alloc (.cells #[.int .i64 dx] 3)).alloc (.cells #[.int .i64 dy] 3)).alloc (.cells #[.slice none 0 0] 28) = V at *
  cases h1 : inB dx (-2000) 2000 with
  | false =>
    have HN := Lib.hid (shi_no (ps := ps) (dy := dy) (.inl h1))
    have HI := Lib.hid (fun W => in_impl_is dx (-2000) 2000 W false h1)
    clear h1
    refine (HI.out _).mono ?_
    rintro e w1 ⟨rfl, rfl⟩
    go_wp2_with fail
    exact bodyPost_ret (v := .tuple #[.agg #[.slice none 0 0], .bool false]) (by simp [results, Try.results12, go_sem, q3]) rfl (AnsR.no HN.out.1 HN.out.2 (bV.setCell (p := ⟨w.heap.size + 3, 0, none⟩) (Nat.le_add_right _ _) _))
  | true =>
    have H1 := Lib.hid h1
    have HI := Lib.hid (fun W => in_impl_is dx (-2000) 2000 W true h1)
    clear h1
    refine (HI.out _).mono ?_
    rintro e w1 ⟨rfl, rfl⟩
    clear HI
    cases h1 : inB dy (-2000) 2000 with
    | false =>
      have HN := Lib.hid (shi_no (ps := ps) (dx := dx) (.inr (.inl h1)))
      have HI := Lib.hid (fun W => in_impl_is dy (-2000) 2000 W false h1)
      clear h1
      go_wp2_with fail
      refine (HI.out _).mono ?_
      rintro e w1 ⟨rfl, rfl⟩
      go_wp2_with fail
      exact bodyPost_ret (v := .tuple #[.agg #[.slice none 0 0], .bool false]) (by simp [results, Try.results12, go_sem, q3]) rfl (AnsR.no HN.out.1 HN.out.2 (bV.setCell (p := ⟨w.heap.size + 3, 0, none⟩) (Nat.le_add_right _ _) _))
    | true =>
      have H2 := Lib.hid h1
      have HI := Lib.hid (fun W => in_impl_is dy (-2000) 2000 W true h1)
      clear h1
      go_wp2_with fail
      refine (HI.out _).mono ?_
      rintro e w1 ⟨rfl, rfl⟩
      clear HI
      go_wp2_with fail
      refine (HR.out _ bV).mono ?_
      rintro e w2 ⟨rfl, bl2⟩
      have b2 := below_to bV bl2
      have p0 := cell_to q0 bl2
      have p1 := cell_to q1 bl2
      have p2 := cell_to q2 bl2
      have p3 := cell_to q3 bl2
      have g3 : w2.frozen? ⟨w.heap.size + 3, 0, none⟩ = false := by rw [bl2.frozen (block_lt_of_cell q3)]; exact f3
      clear bV bl2 q0 q1 q2 q3 f3 HR
      cases hr : rokB ps with
      | false =>
        have HN := Lib.hid (shi_no (dx := dx) (dy := dy) (.inr (.inr hr)))
        clear hr
        go_wp2_with fail
        exact bodyPost_ret (v := .tuple #[.agg #[.slice none 0 0], .bool false]) (by simp [results, Try.results12, go_sem, p3]) rfl (AnsR.no HN.out.1 HN.out.2 (b2.setCell (p := ⟨w.heap.size + 3, 0, none⟩) (Nat.le_add_right _ _) _))
      | true =>
        have HN := Lib.hid (shi_yes H1.out H2.out hr)
        have h40 := rok_len hr
        have HM := Lib.hid (fun (e1 : w.heap.size + 1 + 1 = w.heap.size + 2) => impl_move 39 [.pointer (some ⟨w.heap.size + 1, 0, none⟩), .pointer (some ⟨w.heap.size + 1 + 1, 0, none⟩)] (enters_of Try.func39 (by kernel_rfl) rfl) (shB dx dy) (shM dx dy) a none n ca 0 0 ps [] w2 HL.out (by rw [← HL.out]; exact h40) (HA.out.below b2) rfl (by omega) (.inl ⟨rfl, rfl, rfl⟩) (fun i x hx => by simp at hx) (by simp) (fun h _ hb => ok_in64 (sh_ok dx dy h hb))
          (fun h X hh hX => ⟨shM dx dy h, fun _ => rfl, sh_call (w.heap.size + 1) (w.heap.size + 1 + 1) dx dy h X (in2_of H1.out) (in2_of H2.out) (rok_all hr h hh) (cell_to p1 hX) (cell_to p2 hX)⟩))
        have HM2 := Lib.hid (HM.out rfl)
        clear hr h40 HM
        go_wp2_with fail
        refine HM2.out.mono ?_
        rintro e w3 ⟨ad, cd, rfl, ho3, bl3⟩
        have l3 := block_lt_of_cell p3
        simp only at l3
        have r3 := cell_to p3 bl3
        have k3 : w3.frozen? ⟨w.heap.size + 3, 0, none⟩ = false := by rw [bl3.frozen l3]; exact g3
        have HO := Lib.hid ho3
        have HB := Lib.hid bl3
        clear ho3 bl3 HM2
        obtain ⟨LL, hLL⟩ : ∃ LL, mvL (shB dx dy) (shM dx dy) [] ps = LL := ⟨_, rfl⟩
        obtain ⟨len, hlen⟩ : ∃ len, LL.length = len := ⟨_, rfl⟩
        rw [hLL] at HO HN ⊢
        rw [hlen] at HO ⊢
        generalize mvB (shB dx dy) (shM dx dy) [] ps = r at *
        have HF := Lib.hid (AnsR.put (p := ⟨w.heap.size + 3, 0, none⟩) (w := w) HO.out HN.out.1 HN.out.2 b2 HB.out l3 (Nat.le_add_right _ _))
        go_wp2_with fail
        exact bodyPost_ret (v := .tuple #[.agg #[.slice ad len cd], .bool r]) (by simp [results, Try.results12, go_sem, r3]) rfl HF.out
set_option maxRecDepth 100000 in
set_option maxHeartbeats 1600000 in
theorem spec_shiftr (a : Option Addr) (n ca : Nat) (ps : List H3) (dx dy : Int) (w : World) (hl : ps.length = n) (hn : n ≤ 1048576) (h64 : ∀ h ∈ ps, In64 h) (_ix : -9223372036854775808 ≤ dx ∧ dx ≤ 9223372036854775807) (_iy : -9223372036854775808 ≤ dy ∧ dy ≤ 9223372036854775807) (hz : a = none → n = 0 ∧ ca = 0) (hA : HsAt w a ps) :
    Calls Try.prog 10 #[.agg #[.slice a n ca], .int .i64 dx, .int .i64 dy] w (AnsR w (shiL ps dx dy) (shiB ps dx dy)) := by
  have bV := below_bx2 (below_one w (.cells #[.slice a n ca] 28)) (.cells #[.slice none 0 0] 28)
  have q0 := cell_to (show (w.alloc (.cells #[.slice a n ca] 28)).cell? ⟨w.heap.size, 0, none⟩ = some (.slice a n ca) by simp) (below_one _ (.cells #[.slice none 0 0] 28))
  obtain ⟨q3, f3⟩ := box_one (U := w.alloc (.cells #[.slice a n ca] 28)) (b := w.heap.size + 1) (by simp) (.slice none 0 0) 28
  have HR := Lib.hid (fun V (h : Below w.heap.size w V) => spec_rok a n ca ps V hl hn h64 hz (hA.below h))
  have HM := Lib.hid (fun V (h : Below w.heap.size w V) (p : rokB ps = true) (x : In2k dx) (y : In2k dy) => spec_moved a n ca ps dx dy V hl (by have := rok_len p; omega) (rok_all p) x y (hA.below h))
  clear hl hA h64 hz
  go_enter Try.func10, Try.ntmps10
  go_wp2_with fail
  generalize (w.alloc (.cells #[.slice a n ca] 28)).alloc (.cells #[.slice none 0 0] 28) = V at *
  refine (HR.out _ bV).mono ?_
  rintro e w2 ⟨rfl, bl2⟩
  have b2 := below_to bV bl2
  have p0 := cell_to q0 bl2
  have p3 := cell_to q3 bl2
  have g3 : w2.frozen? ⟨w.heap.size + 1, 0, none⟩ = false := by rw [bl2.frozen (block_lt_of_cell q3)]; exact f3
  clear bV bl2 q0 q3 f3 HR
  cases hr : rokB ps with
  | false =>
    have HN := Lib.hid (shi_no (dx := dx) (dy := dy) (.inr (.inr hr)))
    clear hr
    go_wp2_with fail
    exact bodyPost_ret (v := .tuple #[.agg #[.slice none 0 0], .bool false]) (by simp [results, Try.results10, go_sem, p3]) rfl (AnsR.no HN.out.1 HN.out.2 (b2.setCell (p := ⟨w.heap.size + 1, 0, none⟩) (Nat.le_add_right _ _) _))
  | true =>
    have HP := Lib.hid hr
    clear hr
    cases h1 : inB dx (-2000) 2000 with
    | false =>
      have HN := Lib.hid (shi_no (ps := ps) (dy := dy) (.inl h1))
      have HI := Lib.hid (fun W => in_spec_is dx (-2000) 2000 W false h1)
      clear h1
      go_wp2_with fail
      refine (HI.out _).mono ?_
      rintro e w1 ⟨rfl, rfl⟩
      go_wp2_with fail
      exact bodyPost_ret (v := .tuple #[.agg #[.slice none 0 0], .bool false]) (by simp [results, Try.results10, go_sem, p3]) rfl (AnsR.no HN.out.1 HN.out.2 (b2.setCell (p := ⟨w.heap.size + 1, 0, none⟩) (Nat.le_add_right _ _) _))
    | true =>
      have H1 := Lib.hid h1
      have HI := Lib.hid (fun W => in_spec_is dx (-2000) 2000 W true h1)
      clear h1
      go_wp2_with fail
      refine (HI.out _).mono ?_
      rintro e w1 ⟨rfl, rfl⟩
      clear HI
      cases h1 : inB dy (-2000) 2000 with
      | false =>
        have HN := Lib.hid (shi_no (ps := ps) (dx := dx) (.inr (.inl h1)))
        have HI := Lib.hid (fun W => in_spec_is dy (-2000) 2000 W false h1)
        clear h1
        go_wp2_with fail
        refine (HI.out _).mono ?_
        rintro e w1 ⟨rfl, rfl⟩
        go_wp2_with fail
        exact bodyPost_ret (v := .tuple #[.agg #[.slice none 0 0], .bool false]) (by simp [results, Try.results10, go_sem, p3]) rfl (AnsR.no HN.out.1 HN.out.2 (b2.setCell (p := ⟨w.heap.size + 1, 0, none⟩) (Nat.le_add_right _ _) _))
      | true =>
        have HN := Lib.hid (shi_yes H1.out h1 HP.out)
        have HI := Lib.hid (fun W => in_spec_is dy (-2000) 2000 W true h1)
        have HM2 := Lib.hid (fun W (h : Below w.heap.size w W) => HM.out W h HP.out (in2_of H1.out) (in2_of h1))
        clear h1 HM
        go_wp2_with fail
        refine (HI.out _).mono ?_
        rintro e w1 ⟨rfl, rfl⟩
        clear HI
        go_wp2_with fail
        refine (HM2.out _ b2).mono ?_
        rintro e w3 ⟨ad, cd, rfl, ho3, bl3⟩
        have l3 := block_lt_of_cell p3
        simp only at l3
        have r3 := cell_to p3 bl3
        have k3 : w3.frozen? ⟨w.heap.size + 1, 0, none⟩ = false := by rw [bl3.frozen l3]; exact g3
        have HO := Lib.hid ho3
        have HB := Lib.hid bl3
        clear ho3 bl3 HM2
        obtain ⟨LL, hLL⟩ : ∃ LL, mvL (shB dx dy) (shM dx dy) [] ps = LL := ⟨_, rfl⟩
        obtain ⟨len, hlen⟩ : ∃ len, LL.length = len := ⟨_, rfl⟩
        rw [hLL] at HO HN ⊢
        rw [hlen] at HO ⊢
        generalize mvB (shB dx dy) (shM dx dy) [] ps = r at *
        have HF := Lib.hid (AnsR.put (p := ⟨w.heap.size + 1, 0, none⟩) (w := w) HO.out HN.out.1 HN.out.2 b2 HB.out l3 (Nat.le_add_right _ _))
        go_wp2_with fail
        exact bodyPost_ret (v := .tuple #[.agg #[.slice ad len cd], .bool r]) (by simp [results, Try.results10, go_sem, r3]) rfl HF.out
end Go.Proofs.Ytckfmgldgjnepab
