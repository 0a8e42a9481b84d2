/- MirrorRegion of the program and of the model over the translation. -/
import Derived.Test.YtfndkapjclhflaaMz
namespace Go.Proofs.Ytfndkapjclhflaa
open Go.RowKit Go.Shelf
open Geo (H3)

def mirM (h : H3) : H3 := ⟨-h.a, -h.b, h.c⟩
def mirT (_ : H3) : Bool := true
theorem mir_ok {h : H3} (k : okB h = true) : okB (mirM h) = true := by
  obtain ⟨a1, a2, b1, b2, n, c1, c2, g⟩ := (okH_iff _ _ _).1 k
  refine (okH_iff _ _ _).2 ⟨?_, ?_, ?_, ?_, ?_, c1, c2, ?_⟩
  · show -50000 ≤ -h.a; omega
  · show -h.a ≤ 50000; omega
  · show -50000 ≤ -h.b; omega
  · show -h.b ≤ 50000; omega
  · show -h.a ≠ 0 ∨ -h.b ≠ 0; omega
  · show gS (-h.a) (-h.b) h.c = 1
    rw [← g]; unfold gS; rw [Int.gcd_neg, Int.neg_gcd]
theorem mir_all {ps : List H3} (h : ∀ x ∈ ps, okB x = true) : (ps.map mirM).all okB = true := by
  rw [List.all_eq_true]; intro x hx; obtain ⟨y, hy, rfl⟩ := List.mem_map.1 hx; exact mir_ok (h y hy)
theorem mir_true (ps : List H3) : ps.all mirT = true := by rw [List.all_eq_true]; intro _ _; rfl
set_option maxHeartbeats 1600000 in
theorem mir_call (h : H3) (w : World) (k : okB h = true) :
    Calls Try.prog 86 #[.agg #[.int .i64 h.a, .int .i64 h.b, .int .i64 h.c]] w fun e w' => e = .returned (.tuple #[.agg #[.int .i64 (mirM h).a, .int .i64 (mirM h).b, .int .i64 (mirM h).c], .bool (mirT h)]) ∧ Below w.heap.size w w' := by
  obtain ⟨a1, a2, b1, b2, _, c1, c2, _⟩ := (okH_iff _ _ _).1 k
  obtain ⟨xa, xb, xc⟩ := h
  unfold mirM mirT
  simp only at a1 a2 b1 b2 c1 c2 ⊢
  clear k
  go_enter Try.func86, Try.ntmps86
  go_wp2
  exact bodyPost_ret (v := .tuple #[.agg #[.int .i64 (-xa), .int .i64 (-xb), .int .i64 xc], .bool true]) (by simp [results, Try.results86, go_sem]) rfl ⟨rfl, below_bx2 (below_one _ _) _⟩
/-- what MirrorRegion answers -/
def mirB (ps : List H3) : Bool := rokB ps && mvB mirT mirM [] ps
def mirL (ps : List H3) : List H3 := if rokB ps = true then mvL mirT mirM [] ps else []
theorem mir_no {ps : List H3} (h : rokB ps = false) : mirL ps = [] ∧ mirB ps = false := ⟨by unfold mirL; rw [h]; rfl, by unfold mirB; rw [h]; rfl⟩
theorem mir_yes {ps : List H3} (h : rokB ps = true) : mirL ps = mvL mirT mirM [] ps ∧ mirB ps = mvB mirT mirM [] ps := ⟨if_pos h, by unfold mirB; rw [h]; rfl⟩
set_option maxRecDepth 100000 in
set_option maxHeartbeats 1600000 in
theorem impl_mir (a : Option Addr) (n ca : Nat) (ps : List H3) (w : World) (hl : ps.length = n) (hn : n ≤ 1048576) (h64 : ∀ h ∈ ps, In64 h) (_hz : a = none → n = 0 ∧ ca = 0) (hA : HsAt w a ps) :
    Calls Try.prog 39 #[.agg #[.slice a n ca]] w (AnsR w (mirL ps) (mirB ps)) := by
  have bV := below_bx2 (below_one w (.cells #[.slice a n ca] 25)) (.cells #[.slice none 0 0] 25)
  have q0 := cell_to (show (w.alloc (.cells #[.slice a n ca] 25)).cell? ⟨w.heap.size, 0, none⟩ = some (.slice a n ca) by simp) (below_one _ (.cells #[.slice none 0 0] 25))
  obtain ⟨q3, f3⟩ := box_one (U := w.alloc (.cells #[.slice a n ca] 25)) (b := w.heap.size + 1) (by simp) (.slice none 0 0) 25
  have HR := Lib.hid (fun V (h : Below w.heap.size w V) => impl_rok a n ca ps V hl hn h64 (hA.below h))
  have HA := Lib.hid hA
  have HL := Lib.hid hl
  clear hl hA h64
  go_enter Try.func39, Try.ntmps39
  go_wp2_with fail
  generalize (w.alloc (.cells #[.slice a n ca] 25)).alloc (.cells #[.slice none 0 0] 25) = V at *
  refine (HR.out _ bV).mono ?_
  rintro e w2 ⟨rfl, bl2⟩
  have b2 := below_to bV bl2
  have p0 := cell_to q0 bl2
  have p3 := cell_to q3 bl2
  have g3 : w2.frozen? ⟨w.heap.size + 1, 0, none⟩ = false := by rw [bl2.frozen (block_lt_of_cell q3)]; exact f3
  clear bV bl2 q0 q3 f3 HR
  cases hr : rokB ps with
  | false =>
    have HN := Lib.hid (mir_no hr)
    clear hr
    go_wp2_with fail
    exact bodyPost_ret (v := .tuple #[.agg #[.slice none 0 0], .bool false]) (by simp [results, Try.results39, go_sem, p3]) rfl (AnsR.no HN.out.1 HN.out.2 (b2.setCell (p := ⟨w.heap.size + 1, 0, none⟩) (Nat.le_add_right _ _) _))
  | true =>
    have HN := Lib.hid (mir_yes hr)
    have h40 := rok_len hr
    have HM2 := Lib.hid (impl_move 86 [] (enters_of Try.func86 (by kernel_rfl) rfl) mirT mirM a none n ca 0 0 ps [] w2 HL.out (by rw [← HL.out]; exact h40) (HA.out.below b2) rfl (by omega) (.inl ⟨rfl, rfl, rfl⟩) (fun i x hx => by simp at hx) (by simp) (fun h hh _ => ok_in64 (mir_ok (rok_all hr h hh)))
      (fun h X hh hX => ⟨mirM h, fun _ => rfl, mir_call h X (rok_all hr h hh)⟩))
    clear hr h40
    go_wp2_with fail
    refine HM2.out.mono ?_
    rintro e w3 ⟨ad, cd, rfl, ho3, bl3⟩
    have l3 := block_lt_of_cell p3
    simp only at l3
    have r3 := cell_to p3 bl3
    have k3 : w3.frozen? ⟨w.heap.size + 1, 0, none⟩ = false := by rw [bl3.frozen l3]; exact g3
    have HO := Lib.hid ho3
    have HB := Lib.hid bl3
    clear ho3 bl3 HM2
    obtain ⟨LL, hLL⟩ : ∃ LL, mvL mirT mirM [] ps = LL := ⟨_, rfl⟩
    obtain ⟨len, hlen⟩ : ∃ len, LL.length = len := ⟨_, rfl⟩
    rw [hLL] at HO HN ⊢
    rw [hlen] at HO ⊢
    generalize mvB mirT mirM [] ps = r at *
    have HF := Lib.hid (AnsR.put (p := ⟨w.heap.size + 1, 0, none⟩) (w := w) HO.out HN.out.1 HN.out.2 b2 HB.out l3 (Nat.le_add_right _ _))
    go_wp2_with fail
    exact bodyPost_ret (v := .tuple #[.agg #[.slice ad len cd], .bool r]) (by simp [results, Try.results39, go_sem, r3]) rfl HF.out
end Go.Proofs.Ytfndkapjclhflaa
