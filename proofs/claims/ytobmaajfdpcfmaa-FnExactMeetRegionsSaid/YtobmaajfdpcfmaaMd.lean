/- The contract of the model's MeetRegions over the translation. -/
import Derived.Test.YtobmaajfdpcfmaaMc
namespace Go.Proofs.Ytobmaajfdpcfmaa
open Go.RowKit
open Geo (H3)

theorem met_big {ps qs : List H3} {n m : Nat} (hl : ps.length = n) (hk : qs.length = m) (h : ¬ n + m ≤ 40) : metL ps qs = [] ∧ metB ps qs = false := by
  have : metB ps qs = false := by unfold metB; rw [hl, hk]; simp [h]
  exact ⟨by unfold metL; simp [this], this⟩
theorem met_lm {ps qs : List H3} {n m : Nat} (hl : ps.length = n) (hk : qs.length = m) (p : rokB ps = true) (q : rokB qs = true) (h : n + m ≤ 40) : lmL ps qs = metL ps qs ∧ metB ps qs = true := by
  have e : metB ps qs = true := by unfold metB; rw [p, q, hl, hk]; simp [h]
  refine ⟨?_, e⟩
  unfold lmL metL
  by_cases k : ps = [] ∨ qs = []
  · rw [if_pos k, if_neg]; rintro ⟨_, h1, h2⟩; rcases k with k | k <;> contradiction
  · rw [if_neg k, if_pos ⟨e, fun z => k (.inl z), fun z => k (.inr z)⟩]
set_option maxRecDepth 100000 in
set_option maxHeartbeats 3200000 in
theorem spec_met (a b : Option Addr) (n m ca cb : Nat) (ps qs : List H3) (w : World) (hl : ps.length = n) (hk : qs.length = m) (hn : n ≤ 1048576) (hm : m ≤ 1048576) (h64 : ∀ h ∈ ps, In64 h) (k64 : ∀ h ∈ qs, In64 h) (na : a = none → n = 0 ∧ ca = 0) (nb : b = none → m = 0 ∧ cb = 0) (hA : HsAt w a ps) (hB : HsAt w b qs) :
    Calls Try.prog 49 #[.agg #[.slice a n ca], .agg #[.slice b m cb]] w (AnsR w (metL ps qs) (metB ps qs)) := by
  have bV := below_bx2 (below_bx2 (below_one w (.cells #[.slice a n ca] 26)) (.cells #[.slice b m cb] 26)) (.cells #[.slice none 0 0] 26)
  have q0 := cell_to (show (w.alloc (.cells #[.slice a n ca] 26)).cell? ⟨w.heap.size, 0, none⟩ = some (.slice a n ca) by simp) (below_bx2 (below_one _ (.cells #[.slice b m cb] 26)) (.cells #[.slice none 0 0] 26))
  have q1 := cell_to (show ((w.alloc (.cells #[.slice a n ca] 26)).alloc (.cells #[.slice b m cb] 26)).cell? ⟨w.heap.size + 1, 0, none⟩ = some (.slice b m cb) by simp) (below_one _ (.cells #[.slice none 0 0] 26))
  obtain ⟨q2, f2⟩ := box_one (U := (w.alloc (.cells #[.slice a n ca] 26)).alloc (.cells #[.slice b m cb] 26)) (b := w.heap.size + 2) (by simp) (.slice none 0 0) 26
  have HR := Lib.hid (fun V (h : Below w.heap.size w V) => spec_rok a n ca ps V hl hn h64 na (hA.below h))
  have HS := Lib.hid (fun V (h : Below w.heap.size w V) => spec_rok b m cb qs V hk hm k64 nb (hB.below h))
  have HM := Lib.hid (fun V (h : Below w.heap.size w V) (h0 : n + m ≤ 40) (p : rokB ps = true) (q : rokB qs = true) => spec_lmet a b n m ca cb ps qs V hl hk h0 (rok_allB p) (rok_allB q) (hA.below h) (hB.below h))
  have HL := Lib.hid hl
  have HK := Lib.hid hk
  clear hl hk hA hB h64 k64 na nb
  go_enter Try.func49, Try.ntmps49
  go_wp2_with fail
  generalize ((w.alloc (.cells #[.slice a n ca] 26)).alloc (.cells #[.slice b m cb] 26)).alloc (.cells #[.slice none 0 0] 26) = V at *
  refine (HR.out _ bV).mono ?_
  rintro e w1 ⟨rfl, bl1⟩
  have b1 := below_to bV bl1
  have q0' := cell_to q0 bl1
  have q1' := cell_to q1 bl1
  have q2' := cell_to q2 bl1
  have f2' : w1.frozen? ⟨w.heap.size + 2, 0, none⟩ = false := by rw [bl1.frozen (block_lt_of_cell q2)]; exact f2
  clear bV q0 q1 q2 f2 bl1 HR
  cases hr : rokB ps with
  | false =>
    have HN := Lib.hid (met_no1 (qs := qs) hr)
    clear hr
    go_wp2_with fail
    exact bodyPost_ret (v := .tuple #[.agg #[.slice none 0 0], .bool false]) (by simp [results, Try.results49, go_sem, q2']) rfl (AnsR.no HN.out.1 HN.out.2 (b1.setCell (p := ⟨w.heap.size + 2, 0, none⟩) (Nat.le_add_right _ _) _))
  | true =>
    have HP := Lib.hid hr
    clear hr
    go_wp2_with fail
    refine (HS.out _ b1).mono ?_
    rintro e w2 ⟨rfl, bl2⟩
    have b2 := below_to b1 bl2
    have p0 := cell_to q0' bl2
    have p1 := cell_to q1' bl2
    have p2 := cell_to q2' bl2
    have g2 : w2.frozen? ⟨w.heap.size + 2, 0, none⟩ = false := by rw [bl2.frozen (block_lt_of_cell q2')]; exact f2'
    clear b1 q0' q1' q2' f2' bl2 HS
    cases hr : rokB qs with
    | false =>
      have HN := Lib.hid (met_no2 (ps := ps) hr)
      clear hr
      go_wp2_with fail
      exact bodyPost_ret (v := .tuple #[.agg #[.slice none 0 0], .bool false]) (by simp [results, Try.results49, go_sem, p2]) rfl (AnsR.no HN.out.1 HN.out.2 (b2.setCell (p := ⟨w.heap.size + 2, 0, none⟩) (Nat.le_add_right _ _) _))
    | true =>
      have HQ := Lib.hid hr
      clear hr
      have hw : IntKind.i64.wrap ((n : Int) + (m : Int)) = (n : Int) + (m : Int) := IntWalk.i64_in _ (by omega)
      by_cases h40 : n + m ≤ 40
      · have HN := Lib.hid (met_lm HL.out HK.out HP.out HQ.out h40)
        have hd : decide ((40 : Int) < (n : Int) + (m : Int)) = false := by simpa using by omega
        have hd' : ¬ ((40 : Int) < (n : Int) + (m : Int)) := by omega
        go_wp2_with fail
        refine (HM.out _ b2 h40 HP.out HQ.out).mono ?_
        rintro e w6 ⟨ad, cd, rfl, ho6, bl6⟩
        have b6 := below_to b2 bl6
        have l2 := block_lt_of_cell p2
        simp only at l2
        have q2 := cell_to p2 bl6
        have f2 : w6.frozen? ⟨w.heap.size + 2, 0, none⟩ = false := by rw [bl6.frozen l2]; exact g2
        have H6 := Lib.hid ho6
        have z5 := b2.size
        clear ho6
        generalize lmL ps qs = LL at *
        generalize LL.length = len at *
        have HF := Lib.hid (AnsR.yes (L := metL ps qs) (b := metB ps qs) HN.out.1 HN.out.2 (own_base (own_far (p := ⟨w.heap.size + 2, 0, none⟩) H6.out l2 (.slice ad len cd)) z5) (b6.setCell (p := ⟨w.heap.size + 2, 0, none⟩) (Nat.le_add_right _ _) (.slice ad len cd)))
        go_wp2_with fail
        exact bodyPost_ret (v := .tuple #[.agg #[.slice ad len cd], .bool true]) (by simp [results, Try.results49, go_sem, q2]) rfl HF.out
      · have HN := Lib.hid (met_big HL.out HK.out h40)
        have hd : decide ((40 : Int) < (n : Int) + (m : Int)) = true := by simpa using by omega
        have hd' : (40 : Int) < (n : Int) + (m : Int) := by omega
        go_wp2_with fail
        exact bodyPost_ret (v := .tuple #[.agg #[.slice none 0 0], .bool false]) (by simp [results, Try.results49, go_sem, p2]) rfl (AnsR.no HN.out.1 HN.out.2 (b2.setCell (p := ⟨w.heap.size + 2, 0, none⟩) (Nat.le_add_right _ _) _))
end Go.Proofs.Ytobmaajfdpcfmaa
