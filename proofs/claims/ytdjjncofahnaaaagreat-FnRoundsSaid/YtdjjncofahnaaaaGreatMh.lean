/- The contract of the program's CutRegion over the translation. -/
import Derived.Test.YtdjjncofahnaaaaGreatMw
namespace Go.Proofs.YtdjjncofahnaaaaGreat
open Go.RowKit
open Geo (H3)

/-- whether CutRegion answers, and with which edges -/
def cutB (ps : List H3) (h : H3) : Bool := rokB ps && okB h && decide (ps.length < 40)
def cutA (ps : List H3) (h : H3) : List H3 := if cutB ps h = true ∧ ps ≠ [] then regL (ps ++ [h]) else []
theorem cut_no1 {ps : List H3} {h : H3} (k : rokB ps = false) : cutA ps h = [] ∧ cutB ps h = false := by
  have : cutB ps h = false := by unfold cutB; rw [k]; rfl
  exact ⟨by unfold cutA; simp [this], this⟩
theorem cut_no2 {ps : List H3} {h : H3} (k : okB h = false) : cutA ps h = [] ∧ cutB ps h = false := by
  have : cutB ps h = false := by unfold cutB; rw [k]; simp
  exact ⟨by unfold cutA; simp [this], this⟩
theorem cut_big {ps : List H3} {h : H3} {n : Nat} (hl : ps.length = n) (k : ¬ n < 40) : cutA ps h = [] ∧ cutB ps h = false := by
  have : cutB ps h = false := by unfold cutB; rw [hl]; simp [k]
  exact ⟨by unfold cutA; simp [this], this⟩
theorem cut_void {ps : List H3} {h : H3} (k : okB h = true) (n : ps = []) : cutA ps h = [] ∧ cutB ps h = true := by
  subst n
  refine ⟨by unfold cutA; simp, ?_⟩
  unfold cutB; rw [k]; rfl
theorem cut_yes {ps : List H3} {h : H3} (p : rokB ps = true) (k : okB h = true) (n : ps ≠ []) : cutA ps h = regE (ps ++ [h]) ∧ cutB ps h = okF (ps ++ [h]) := by
  have e := okF_more (ks := [h]) p n (by simp [k])
  have e2 : cutB ps h = okF (ps ++ [h]) := by rw [e]; unfold cutB; rw [p, k]; simp; omega
  refine ⟨?_, e2⟩
  unfold cutA regE
  rw [e2]
  by_cases q : okF (ps ++ [h]) = true
  · rw [if_pos ⟨q, n⟩, if_pos q]
  · rw [if_neg (fun z => q z.1), if_neg q]
theorem cut_mod {ps : List H3} {h : H3} {n : Nat} (hl : ps.length = n) (p : rokB ps = true) (k : okB h = true) (l : n < 40) (ne : ps ≠ []) : modL (ps ++ [h]) = cutA ps h ∧ cutB ps h = true := by
  have e : cutB ps h = true := by unfold cutB; rw [p, k, hl]; simp [l]
  refine ⟨?_, e⟩
  rw [mod_reg (by rw [List.all_append, rok_allB p]; simp [k])]
  unfold cutA; rw [if_pos ⟨e, ne⟩]
theorem hs_one (w : World) (x : H3) (T : TypeId) : HsAt (w.alloc (.cells #[.int .i64 x.a, .int .i64 x.b, .int .i64 x.c] T)) (some ⟨w.heap.size, 0, none⟩) [x] := by
  intro i y hy
  cases i with
  | zero =>
    simp at hy; subst hy
    obtain ⟨a1, a2, a3⟩ := tri_new w (.int .i64 x.a) (.int .i64 x.b) (.int .i64 x.c) T
    exact ⟨_, _, rfl, by simp [a1], by simp [a2], by simp [a3]⟩
  | succ i => simp at hy
set_option maxRecDepth 100000 in
set_option maxHeartbeats 3200000 in
theorem impl_cut (a : Option Addr) (n ca : Nat) (ps : List H3) (xa xb xc : Int) (w : World) (hl : ps.length = n) (hn : n ≤ 1048576) (h64 : ∀ h ∈ ps, In64 h) (k64 : In64 ⟨xa, xb, xc⟩) (hA : HsAt w a ps) :
    Calls Tryz.prog 17 #[.agg #[.slice a n ca], .agg #[.int .i64 xa, .int .i64 xb, .int .i64 xc]] w (AnsR w (cutA ps ⟨xa, xb, xc⟩) (cutB ps ⟨xa, xb, xc⟩)) := by
  have bV := below_bx2 (below_bx2 (below_one w (.cells #[.slice a n ca] 26)) (.cells #[.int .i64 xa, .int .i64 xb, .int .i64 xc] 39)) (.cells #[.slice none 0 0] 26)
  have q0 := cell_to (show (w.alloc (.cells #[.slice a n ca] 26)).cell? ⟨w.heap.size, 0, none⟩ = some (.slice a n ca) by simp) (below_bx2 (below_one _ (.cells #[.int .i64 xa, .int .i64 xb, .int .i64 xc] 39)) (.cells #[.slice none 0 0] 26))
  have T0 := has3_to (below_one _ (.cells #[.slice none 0 0] 26)) (has3_new (w.alloc (.cells #[.slice a n ca] 26)) (.int .i64 xa) (.int .i64 xb) (.int .i64 xc) 39)
  rw [show (w.alloc (.cells #[.slice a n ca] 26)).heap.size = w.heap.size + 1 by simp] at T0
  obtain ⟨q2, f2⟩ := box_one (U := (w.alloc (.cells #[.slice a n ca] 26)).alloc (.cells #[.int .i64 xa, .int .i64 xb, .int .i64 xc] 39)) (b := w.heap.size + 2) (by simp) (.slice none 0 0) 26
  have HV := Lib.hid (fun V => impl_void a n ca V)
  have HR := Lib.hid (fun V (h : Below w.heap.size w V) => impl_rok a n ca ps V hl hn h64 (hA.below h))
  have HH := Lib.hid (fun V => impl_hok xa xb xc V k64.1.1 k64.1.2 k64.2.1.1 k64.2.1.2 k64.2.2.1 k64.2.2.2)
  have HB := Lib.hid (show okH xa xb xc = okB ⟨xa, xb, xc⟩ from rfl)
  rw [HB.out] at HH
  have HA := Lib.hid hA
  have HL := Lib.hid hl
  have H64 := Lib.hid (in64_app h64 (ks := [⟨xa, xb, xc⟩]) (by simpa using k64))
  clear hl hA h64 k64 HB
  go_enter Tryz.func17, Tryz.ntmps17
  obtain ⟨t1, t2, t3, u1, u2, u3⟩ := T0
  go_wp2_with fail
  have T0 : Has3 (((w.alloc (.cells #[.slice a n ca] 26)).alloc (.cells #[.int .i64 xa, .int .i64 xb, .int .i64 xc] 39)).alloc (.cells #[.slice none 0 0] 26)) (w.heap.size + 1) (.int .i64 xa) (.int .i64 xb) (.int .i64 xc) := ⟨t1, t2, t3, u1, u2, u3⟩
  clear t1 t2 t3 u1 u2 u3
  generalize ((w.alloc (.cells #[.slice a n ca] 26)).alloc (.cells #[.int .i64 xa, .int .i64 xb, .int .i64 xc] 39)).alloc (.cells #[.slice none 0 0] 26) = V at *
  refine (HH.out _).mono ?_
  rintro e w1 ⟨rfl, bl1⟩
  have b1 := below_to bV bl1
  have q0' := cell_to q0 bl1
  have T1 := Lib.hid (has3_to bl1 T0)
  have q2' := cell_to q2 bl1
  have f2' : w1.frozen? ⟨w.heap.size + 2, 0, none⟩ = false := by rw [bl1.frozen (block_lt_of_cell q2)]; exact f2
  clear bV q0 T0 q2 f2 bl1 HH
  cases hr : okB ⟨xa, xb, xc⟩ with
  | false =>
    have HN := Lib.hid (cut_no2 (ps := ps) hr)
    clear hr
    go_wp2_with fail
    exact bodyPost_ret (v := .tuple #[.agg #[.slice none 0 0], .bool false]) (by simp [results, Tryz.results17, go_sem, q2']) rfl (AnsR.no HN.out.1 HN.out.2 (b1.setCell (p := ⟨w.heap.size + 2, 0, none⟩) (Nat.le_add_right _ _) _))
  | true =>
    have HQ := Lib.hid hr
    clear hr
    go_wp2_with fail
    refine (HR.out _ b1).mono ?_
    rintro e w2 ⟨rfl, bl2⟩
    have b2 := below_to b1 bl2
    have p0 := cell_to q0' bl2
    have T2 := Lib.hid (has3_to bl2 T1.out)
    have p2 := cell_to q2' bl2
    have g2 : w2.frozen? ⟨w.heap.size + 2, 0, none⟩ = false := by rw [bl2.frozen (block_lt_of_cell q2')]; exact f2'
    clear b1 q0' T1 q2' f2' bl2 HR
    cases hr : rokB ps with
    | false =>
      have HN := Lib.hid (cut_no1 (h := ⟨xa, xb, xc⟩) hr)
      clear hr
      go_wp2_with fail
      exact bodyPost_ret (v := .tuple #[.agg #[.slice none 0 0], .bool false]) (by simp [results, Tryz.results17, go_sem, p2]) rfl (AnsR.no HN.out.1 HN.out.2 (b2.setCell (p := ⟨w.heap.size + 2, 0, none⟩) (Nat.le_add_right _ _) _))
    | true =>
      have HP := Lib.hid hr
      clear hr
      go_wp2_with fail
      refine (HV.out _).mono ?_
      rintro e w4 ⟨rfl, bl4⟩
      have b4 := below_to b2 bl4
      have q0 := cell_to p0 bl4
      have T4 := has3_to bl4 T2.out
      have q2 := cell_to p2 bl4
      have f2 : w4.frozen? ⟨w.heap.size + 2, 0, none⟩ = false := by rw [bl4.frozen (block_lt_of_cell p2)]; exact g2
      clear b2 p0 T2 p2 g2 bl4 HV
      by_cases h0 : n = 0
      · have HN := Lib.hid (cut_void HQ.out (len_nil HL.out h0))
        subst h0
        go_wp2_with fail
        exact bodyPost_ret (v := .tuple #[.agg #[.slice none 0 0], .bool true]) (by simp [results, Tryz.results17, go_sem, q2]) rfl (AnsR.no HN.out.1 HN.out.2 (b4.setCell (p := ⟨w.heap.size + 2, 0, none⟩) (Nat.le_add_right _ _) _))
      · have hb : ((n : Int) == 0) = false := eq_b (by omega)
        have HN := Lib.hid (cut_yes HP.out HQ.out (len_ne HL.out h0))
        obtain ⟨t1, t2, t3, u1, u2, u3⟩ := T4
        go_wp2_with fail
        have bW := below_bx2 b4 (.cells #[.int .i64 xa, .int .i64 xb, .int .i64 xc] 39)
        have bX := below_bx2 bW (.cells #[.slice a n ca, .slice (some ⟨w4.heap.size, 0, none⟩) 1 1] 24)
        have bY := below_bx2 (below_one w4 (.cells #[.int .i64 xa, .int .i64 xb, .int .i64 xc] 39)) (.cells #[.slice a n ca, .slice (some ⟨w4.heap.size, 0, none⟩) 1 1] 24)
        have x2 := cell_to q2 bY
        have l2 := block_lt_of_cell q2
        simp only at l2
        have y2 : ((w4.alloc (.cells #[.int .i64 xa, .int .i64 xb, .int .i64 xc] 39)).alloc (.cells #[.slice a n ca, .slice (some ⟨w4.heap.size, 0, none⟩) 1 1] 24)).frozen? ⟨w.heap.size + 2, 0, none⟩ = false := by rw [bY.frozen l2]; exact f2
        have HO := Lib.hid ((hs_one w4 ⟨xa, xb, xc⟩ 39).below (below_one _ (.cells #[.slice a n ca, .slice (some ⟨w4.heap.size, 0, none⟩) 1 1] 24)))
        have hsz : (w4.alloc (.cells #[.int .i64 xa, .int .i64 xb, .int .i64 xc] 39)).heap.size = w4.heap.size + 1 := by simp
        have B2 := box_two (w4.alloc (.cells #[.int .i64 xa, .int .i64 xb, .int .i64 xc] 39)) (.slice a n ca) (.slice (some ⟨w4.heap.size, 0, none⟩) 1 1) 24
        rw [hsz] at B2
        refine (concat_two (w4.heap.size + 1) a (some ⟨w4.heap.size, 0, none⟩) n 1 ca 1 2 ps [⟨xa, xb, xc⟩] _ HL.out rfl (by omega) (by omega) (by omega) (by omega) (HA.out.below bX) HO.out B2.1 B2.2).mono ?_
        rintro e w5 ⟨ac, cc, rfl, ho5, bl5⟩
        obtain ⟨N, hN⟩ : ∃ N, (ps ++ [(⟨xa, xb, xc⟩ : H3)]).length = N := ⟨_, rfl⟩
        rw [hN] at ho5 ⊢
        have HNN := Lib.hid hN
        have b5 := below_to bX bl5
        have q2 := cell_to x2 bl5
        have f2 : w5.frozen? ⟨w.heap.size + 2, 0, none⟩ = false := by rw [bl5.frozen (block_lt_of_cell x2)]; exact y2
        have A5 := Lib.hid (own_hs ho5)
        clear hN ho5 bl5 x2 y2 bX bW bY b4 t1 t2 t3 u1 u2 u3 HO B2 hsz
        go_wp2_with fail
        refine (impl_from ac N cc (ps ++ [⟨xa, xb, xc⟩]) w5 HNN.out (by have := HNN.out; have h1 := rok_len HP.out; rw [List.length_append] at this; simp at this; omega) H64.out A5.out).mono ?_
        rintro e w6 ⟨ad, cd, rfl, ho6, bl6⟩
        have b6 := below_to b5 bl6
        have l2 := block_lt_of_cell q2
        simp only at l2
        have p2 := cell_to q2 bl6
        have g2 : w6.frozen? ⟨w.heap.size + 2, 0, none⟩ = false := by rw [bl6.frozen l2]; exact f2
        have H6 := Lib.hid ho6
        clear ho6 A5
        generalize regE (ps ++ [(⟨xa, xb, xc⟩ : H3)]) = LL at *
        generalize LL.length = len at *
        have z5 := b5.size
        have HF := Lib.hid (AnsR.yes (L := cutA ps ⟨xa, xb, xc⟩) (b := cutB ps ⟨xa, xb, xc⟩) HN.out.1.symm HN.out.2 (own_base (own_far (p := ⟨w.heap.size + 2, 0, none⟩) H6.out l2 (.slice ad len cd)) z5) (b6.setCell (p := ⟨w.heap.size + 2, 0, none⟩) (Nat.le_add_right _ _) (.slice ad len cd)))
        go_wp2_with fail
        exact bodyPost_ret (v := .tuple #[.agg #[.slice ad len cd], .bool (okF (ps ++ [⟨xa, xb, xc⟩]))]) (by simp [results, Tryz.results17, go_sem, p2]) rfl HF.out
end Go.Proofs.YtdjjncofahnaaaaGreat
