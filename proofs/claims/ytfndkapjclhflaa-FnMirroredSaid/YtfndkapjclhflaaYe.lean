/- WidthOf of the program and of the model, over the translation. -/
import Derived.Test.YtfndkapjclhflaaYd
import Derived.Test.YtfndkapjclhflaaFg
namespace Go.Proofs.Ytfndkapjclhflaa
open Go.RowKit Go.Shelf
open Geo (H3)

/-- WidthOf -/
noncomputable def wdB (A B : Int) (ps : List H3) : Bool := supB A B ps && smB (supR A B ps).2.1 (supR A B ps).2.2 (supR (-A) (-B) ps).2.1 (supR (-A) (-B) ps).2.2
noncomputable def wdN (A B : Int) (ps : List H3) : Int := if supB A B ps = true then smN (supR A B ps).2.1 (supR A B ps).2.2 (supR (-A) (-B) ps).2.1 (supR (-A) (-B) ps).2.2 else 0
noncomputable def wdD (A B : Int) (ps : List H3) : Int := if supB A B ps = true then smD (supR A B ps).2.1 (supR A B ps).2.2 (supR (-A) (-B) ps).2.1 (supR (-A) (-B) ps).2.2 else 0
theorem wd_no {A B : Int} {ps : List H3} (h : supB A B ps = false) : wdN A B ps = 0 ∧ wdD A B ps = 0 ∧ wdB A B ps = false := by
  unfold wdN wdD wdB; rw [h]; simp
theorem wd_yes {A B : Int} {ps : List H3} (h : supB A B ps = true) : wdN A B ps = smN (supR A B ps).2.1 (supR A B ps).2.2 (supR (-A) (-B) ps).2.1 (supR (-A) (-B) ps).2.2 ∧ wdD A B ps = smD (supR A B ps).2.1 (supR A B ps).2.2 (supR (-A) (-B) ps).2.1 (supR (-A) (-B) ps).2.2 ∧ wdB A B ps = smB (supR A B ps).2.1 (supR A B ps).2.2 (supR (-A) (-B) ps).2.1 (supR (-A) (-B) ps).2.2 := by
  unfold wdN wdD wdB; rw [h]; simp
theorem inB_neg {A : Int} (h : inB A (-50000) 50000 = true) : (-50000 ≤ A ∧ A ≤ 50000) ∧ inB (-A) (-50000) 50000 = true := by
  unfold inB at *
  simp only [Bool.and_eq_true, decide_eq_true_eq] at *
  omega
theorem sup_flip {A B : Int} {ps : List H3} (h : supB A B ps = true) : ((-50000 ≤ A ∧ A ≤ 50000) ∧ -50000 ≤ B ∧ B ≤ 50000) ∧ supB (-A) (-B) ps = true := by
  unfold supB at *
  simp only [Bool.and_eq_true] at *
  obtain ⟨⟨⟨h1, h2⟩, h3⟩, h4⟩ := h
  obtain ⟨a1, a2⟩ := inB_neg h3
  obtain ⟨b1, b2⟩ := inB_neg h4
  exact ⟨⟨a1, b1⟩, ⟨⟨h1, h2⟩, a2⟩, b2⟩
theorem sup_ok {A B : Int} {ps : List H3} (h : supB A B ps = true) : okR (supR A B ps).2.1 (supR A B ps).2.2 = true := by
  have h' := h
  unfold supB at h'
  simp only [Bool.and_eq_true, decide_eq_true_eq] at h'
  obtain ⟨⟨⟨h1, h2⟩, h3⟩, h4⟩ := h'
  obtain ⟨_, e, k, _⟩ := sup_of (n := ps.length) rfl h1 h2 h3 h4
  rw [e]
  exact k
set_option maxRecDepth 100000 in
set_option maxHeartbeats 1600000 in
theorem impl_wid (a : Option Addr) (n ca : Nat) (ps : List H3) (A B : Int) (w : World) (hl : ps.length = n) (hn : n ≤ 1048576) (h64 : ∀ h ∈ ps, In64 h) (hA : HsAt w a ps) :
    Calls Try.prog 28 #[.agg #[.slice a n ca], .int .i64 A, .int .i64 B] w fun e w' => e = .returned (.tuple #[.agg #[.int .i64 (wdN A B ps), .int .i64 (wdD A B ps)], .bool (wdB A B ps)]) ∧ Below w.heap.size w w' := by
  have bV := below_bx2 (below_one w (.cells #[.slice a n ca] 25)) (.cells #[.int .i64 0, .int .i64 0] 49)
  have K0 := (blk_new w #[.slice a n ca] 25 (b := w.heap.size) (by simp)).to (below_one _ (.cells #[.int .i64 0, .int .i64 0] 49))
  have K1 := blk_new (w.alloc (.cells #[.slice a n ca] 25)) #[.int .i64 0, .int .i64 0] 49 (b := w.heap.size + 1) (by simp)
  have H1 := Lib.hid (fun V (h : Below w.heap.size w V) => impl_sup a n ca ps A B V hl hn h64 (hA.below h))
  have H2 := Lib.hid (fun V A' B' (h : Below w.heap.size w V) => impl_sup a n ca ps A' B' V hl hn h64 (hA.below h))
  clear hl hn h64 hA
  cases hs : supB A B ps with
  | false =>
    have HN := Lib.hid (wd_no hs)
    rw [HN.out.1, HN.out.2.1, HN.out.2.2]
    rw [hs] at H1
    clear hs
    have k0 := K0.cell0 (i := 0) (v := .slice a n ca) rfl
    go_enter Try.func28, Try.ntmps28
    go_wp2_with fail
    clear k0
    generalize ((w.alloc (.cells #[.slice a n ca] 25)).alloc (.cells #[.int .i64 0, .int .i64 0] 49)) = V at *
    refine (H1.out _ bV).mono ?_
    rintro e w1 ⟨rfl, bl1⟩
    have bY := below_one w1 (.cells #[.int .i64 (supR A B ps).2.1, .int .i64 (supR A B ps).2.2] 49)
    have b1 := below_to (below_to bV bl1) bY
    have L0 := (K0.to bl1).to bY
    have L1 := (K1.to bl1).to bY
    have N1 := blk_new w1 #[.int .i64 (supR A B ps).2.1, .int .i64 (supR A B ps).2.2] 49 rfl
    clear bl1 bY bV K0 K1 H1
    clear L0 N1 H2
    have g1 := L1.cell0 (i := 0) rfl
    have g2 := L1.cell0 (i := 1) rfl
    have f1 := L1.free 0
    have f2 := L1.free 1
    have hc5 := (blk_set2 L1 (.int .i64 0) (.int .i64 0)).cell0 (i := 0) rfl
    have hc6 := (blk_set2 L1 (.int .i64 0) (.int .i64 0)).cell0 (i := 1) rfl
    go_wp2_with fail
    exact bodyPost_ret (v := .tuple #[.agg #[.int .i64 0, .int .i64 0], .bool false]) (by simp [results, Try.results28, go_sem, hc5, hc6]) rfl ⟨rfl, (b1.setCell (p := ⟨w.heap.size + 1, 0, none⟩) (Nat.le_add_right _ _) _).setCell (p := ⟨w.heap.size + 1, 1, none⟩) (Nat.le_add_right _ _) _⟩
  | true =>
    have HY := Lib.hid (wd_yes hs)
    rw [HY.out.1, HY.out.2.1, HY.out.2.2]
    obtain ⟨⟨⟨a1, a2⟩, a3, a4⟩, hs2⟩ := sup_flip hs
    have HK1 := Lib.hid (sup_ok hs)
    have HK2 := Lib.hid (sup_ok hs2)
    have HS2 := Lib.hid hs2
    rw [hs] at H1
    clear hs hs2
    obtain ⟨RN, hRN⟩ : ∃ x, smN (supR A B ps).2.1 (supR A B ps).2.2 (supR (-A) (-B) ps).2.1 (supR (-A) (-B) ps).2.2 = x := ⟨_, rfl⟩
    obtain ⟨RD, hRD⟩ : ∃ x, smD (supR A B ps).2.1 (supR A B ps).2.2 (supR (-A) (-B) ps).2.1 (supR (-A) (-B) ps).2.2 = x := ⟨_, rfl⟩
    obtain ⟨RB, hRB⟩ : ∃ x, smB (supR A B ps).2.1 (supR A B ps).2.2 (supR (-A) (-B) ps).2.1 (supR (-A) (-B) ps).2.2 = x := ⟨_, rfl⟩
    rw [hRN, hRD, hRB]
    have HRN := Lib.hid hRN
    have HRD := Lib.hid hRD
    have HRB := Lib.hid hRB
    clear hRN hRD hRB
    have v1 : IntKind.i64.wrap (-A) = -A := IntWalk.i64_in _ (by omega)
    have v2 : IntKind.i64.wrap (-B) = -B := IntWalk.i64_in _ (by omega)
    clear a1 a2 a3 a4
    have k0 := K0.cell0 (i := 0) (v := .slice a n ca) rfl
    go_enter Try.func28, Try.ntmps28
    go_wp2_with fail
    clear k0
    generalize ((w.alloc (.cells #[.slice a n ca] 25)).alloc (.cells #[.int .i64 0, .int .i64 0] 49)) = V at *
    refine (H1.out _ bV).mono ?_
    rintro e w1 ⟨rfl, bl1⟩
    have bY := below_one w1 (.cells #[.int .i64 (supR A B ps).2.1, .int .i64 (supR A B ps).2.2] 49)
    have b1 := below_to (below_to bV bl1) bY
    have L0 := (K0.to bl1).to bY
    have L1 := (K1.to bl1).to bY
    have N1 := blk_new w1 #[.int .i64 (supR A B ps).2.1, .int .i64 (supR A B ps).2.2] 49 rfl
    clear bl1 bY bV K0 K1 H1
    have k0 := L0.cell0 (i := 0) (v := .slice a n ca) rfl
    go_wp2_with fail
    clear k0
    generalize w1.alloc (.cells #[.int .i64 (supR A B ps).2.1, .int .i64 (supR A B ps).2.2] 49) = U at *
    generalize w1.heap.size = u1 at *
    have H3 := H2.out U (-A) (-B) b1
    rw [HS2.out] at H3
    have H4 := Lib.hid H3
    clear H3 H2
    refine H4.out.mono ?_
    rintro e w2 ⟨rfl, bl2⟩
    have bZ := below_one w2 (.cells #[.int .i64 (supR (-A) (-B) ps).2.1, .int .i64 (supR (-A) (-B) ps).2.2] 49)
    have b2 := below_to (below_to b1 bl2) bZ
    have M1 := (L1.to bl2).to bZ
    have M2 := (N1.to bl2).to bZ
    have M3 := blk_new w2 #[.int .i64 (supR (-A) (-B) ps).2.1, .int .i64 (supR (-A) (-B) ps).2.2] 49 rfl
    have HS := Lib.hid (fun W => impl_sum (supR A B ps).2.1 (supR A B ps).2.2 (supR (-A) (-B) ps).2.1 (supR (-A) (-B) ps).2.2 W HK1.out HK2.out)
    clear bl2 bZ b1 L0 L1 N1 H4
    generalize (supR A B ps).2.1 = t1 at *
    generalize (supR A B ps).2.2 = t2 at *
    generalize (supR (-A) (-B) ps).2.1 = t3 at *
    generalize (supR (-A) (-B) ps).2.2 = t4 at *
    have k1 := M2.cell0 (i := 0) rfl
    have k2 := M2.cell0 (i := 1) rfl
    have k3 := M3.cell0 (i := 0) rfl
    have k4 := M3.cell0 (i := 1) rfl
    go_wp2_with fail
    clear k1 k2 k3 k4
    generalize w2.alloc (.cells #[.int .i64 t3, .int .i64 t4] 49) = X at *
    refine (HS.out _).mono ?_
    rintro e w3 ⟨rfl, bl3⟩
    have b3 := below_to b2 bl3
    have Q1 := M1.to bl3
    clear HS bl3 b2 M1 M2 M3
    rw [HRN.out, HRD.out, HRB.out]
    clear HRN HRD HRB
    have g1 := Q1.cell0 (i := 0) rfl
    have g2 := Q1.cell0 (i := 1) rfl
    have f1 := Q1.free 0
    have f2 := Q1.free 1
    have hc5 := (blk_set2 Q1 (.int .i64 RN) (.int .i64 RD)).cell0 (i := 0) rfl
    have hc6 := (blk_set2 Q1 (.int .i64 RN) (.int .i64 RD)).cell0 (i := 1) rfl
    go_wp2_with fail
    exact bodyPost_ret (v := .tuple #[.agg #[.int .i64 RN, .int .i64 RD], .bool RB]) (by simp [results, Try.results28, go_sem, hc5, hc6]) rfl ⟨rfl, (b3.setCell (p := ⟨w.heap.size + 1, 0, none⟩) (Nat.le_add_right _ _) _).setCell (p := ⟨w.heap.size + 1, 1, none⟩) (Nat.le_add_right _ _) _⟩
end Go.Proofs.Ytfndkapjclhflaa
