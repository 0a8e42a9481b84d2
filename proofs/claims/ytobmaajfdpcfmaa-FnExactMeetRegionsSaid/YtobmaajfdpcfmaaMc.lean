/- The contracts of the model's MeetRegions over the translation. -/
import Derived.Test.YtobmaajfdpcfmaaMb
namespace Go.Proofs.Ytobmaajfdpcfmaa
open Go.RowKit
open Geo (H3)

def lmL (ps qs : List H3) : List H3 := if ps = [] ∨ qs = [] then [] else regL (ps ++ qs)
theorem MakW.no {w w' : World} {L : List H3} (h : L = []) (hb : Below w.heap.size w w') : MakW w L (.returned (.agg #[.slice none 0 0])) w' := by
  subst h; exact ⟨none, 0, rfl, own3_none, hb⟩
theorem MakW.yes {w w' : World} {L M : List H3} {ao : Option Addr} {m cp : Nat} (h : M = L) (ho : w'.ownsRow w.heap.size 34 3 (.slice ao m cp) m (flat M)) (hb : Below w.heap.size w w') : MakW w L (.returned (.agg #[.slice ao m cp])) w' := by
  subst h; exact MakW.of ho hb
theorem grown_cell {V X : World} {row : Option Nat} {p : Addr} {u : Value} (h : V.cell? p = some u) (hg : V.grownBy X row) (hne : ∀ q, row = some q → q ≠ p.block) : X.cell? p = some u :=
  cell_far h hg (fun e => hne _ e.symm rfl)
theorem two_set {V X : World} {p q r : Addr} {a b u : Value} (h : V.cell? p = some a) (k : V.cell? q = some b) (hb : Below V.heap.size V X) (h1 : r.block ≠ p.block) (h2 : r.block ≠ q.block) : (X.setCell r u).cell? p = some a ∧ (X.setCell r u).cell? q = some b :=
  ⟨(World.cell?_setCell_far X r p u h1).trans (cell_to h hb), (World.cell?_setCell_far X r q u h2).trans (cell_to k hb)⟩
set_option maxRecDepth 100000 in
set_option maxHeartbeats 3200000 in
theorem spec_lmet (a b : Option Addr) (n m ca cb : Nat) (ps qs : List H3) (w : World) (hl : ps.length = n) (hk : qs.length = m) (hn : n + m ≤ 40) (h1 : ps.all okB = true) (h2 : qs.all okB = true) (hA : HsAt w a ps) (hB : HsAt w b qs) :
    Calls Try.prog 98 #[.agg #[.slice a n ca], .agg #[.slice b m cb]] w (MakW w (lmL ps qs)) := by
  obtain ⟨i0, hi, hz0, hz1, hz2⟩ := info_parts Try.info34
  have bV := below_bx2 (below_bx2 (below_one w (.cells #[.slice a n ca] 26)) (.cells #[.slice b m cb] 26)) (.cells #[.slice none 0 0] 26)
  have q0 := cell_to (show (w.alloc (.cells #[.slice a n ca] 26)).cell? ⟨w.heap.size, 0, none⟩ = some (.slice a n ca) by simp) (below_bx2 (below_one _ (.cells #[.slice b m cb] 26)) (.cells #[.slice none 0 0] 26))
  have q1 := cell_to (show ((w.alloc (.cells #[.slice a n ca] 26)).alloc (.cells #[.slice b m cb] 26)).cell? ⟨w.heap.size + 1, 0, none⟩ = some (.slice b m cb) by simp) (below_one _ (.cells #[.slice none 0 0] 26))
  obtain ⟨q2, f2⟩ := box_one (U := (w.alloc (.cells #[.slice a n ca] 26)).alloc (.cells #[.slice b m cb] 26)) (b := w.heap.size + 2) (by simp) (.slice none 0 0) 26
  have HV := Lib.hid (fun V => spec_void a n ca V)
  have HW := Lib.hid (fun V => spec_void b m cb V)
  have HA := Lib.hid hA
  have HB := Lib.hid hB
  have HL := Lib.hid hl
  have HK := Lib.hid hk
  have HOK := Lib.hid (show (ps ++ qs).all okB = true by rw [List.all_append, h1, h2]; rfl)
  clear hl hk hA hB h1 h2
  go_enter Try.func98, Try.ntmps98
  go_wp2_with fail
  generalize ((w.alloc (.cells #[.slice a n ca] 26)).alloc (.cells #[.slice b m cb] 26)).alloc (.cells #[.slice none 0 0] 26) = V at *
  refine (HV.out _).mono ?_
  rintro e w3 ⟨rfl, bl3⟩
  have b3 := below_to bV bl3
  have p0 := cell_to q0 bl3
  have p1 := cell_to q1 bl3
  have p2 := cell_to q2 bl3
  have g2 : w3.frozen? ⟨w.heap.size + 2, 0, none⟩ = false := by rw [bl3.frozen (block_lt_of_cell q2)]; exact f2
  clear bV q0 q1 q2 f2 bl3 HV
  by_cases h0 : n = 0
  · have HN := Lib.hid (show lmL ps qs = [] from if_pos (.inl (len_nil HL.out h0)))
    subst h0
    go_wp2_with fail
    exact bodyPost_ret (v := .agg #[.slice none 0 0]) (by simp [results, Try.results98, go_sem, p2]) rfl (MakW.no HN.out (b3.setCell (p := ⟨w.heap.size + 2, 0, none⟩) (Nat.le_add_right _ _) _))
  · have hb : ((n : Int) == 0) = false := eq_b (by omega)
    go_wp2_with fail
    refine (HW.out _).mono ?_
    rintro e w4 ⟨rfl, bl4⟩
    have b4 := below_to b3 bl4
    have q0 := cell_to p0 bl4
    have q1 := cell_to p1 bl4
    have q2 := cell_to p2 bl4
    have f2 : w4.frozen? ⟨w.heap.size + 2, 0, none⟩ = false := by rw [bl4.frozen (block_lt_of_cell p2)]; exact g2
    clear b3 p0 p1 p2 g2 bl4 HW
    by_cases h1 : m = 0
    · have HN := Lib.hid (show lmL ps qs = [] from if_pos (.inr (len_nil HK.out h1)))
      subst h1
      go_wp2_with fail
      exact bodyPost_ret (v := .agg #[.slice none 0 0]) (by simp [results, Try.results98, go_sem, q2]) rfl (MakW.no HN.out (b4.setCell (p := ⟨w.heap.size + 2, 0, none⟩) (Nat.le_add_right _ _) _))
    · have hb1 : ((m : Int) == 0) = false := eq_b (by omega)
      have HN := Lib.hid (show modL (ps ++ qs) = lmL ps qs from (mod_reg HOK.out).trans (if_neg (not_or.2 ⟨len_ne HL.out h0, len_ne HK.out h1⟩)).symm)
      obtain ⟨x0, hx0⟩ : ∃ x, ps[0]? = some x := ⟨_, List.getElem?_eq_getElem (by have := HL.out; omega)⟩
      obtain ⟨y0, hy0⟩ : ∃ x, qs[0]? = some x := ⟨_, List.getElem?_eq_getElem (by have := HK.out; omega)⟩
      obtain ⟨ga, oa, rfl, _⟩ := HA.out 0 _ hx0
      obtain ⟨gb, ob, rfl, _⟩ := HB.out 0 _ hy0
      have HC1 := Lib.hid (fun W (h : Below w.heap.size w W) => hs_cells (HA.out.below h))
      have HC2 := Lib.hid (fun W (h : Below w.heap.size w W) => hs_cells (HB.out.below h))
      have HM := Lib.hid (fun W g cp (h : World.ownsRow W w4.heap.size 34 3 (.slice (some ⟨g, 0, none⟩) (n + m) cp) (n + m) (flat [] ++ flat ps ++ flat qs)) => spec_make (some ⟨g, 0, none⟩) (n + m) cp (ps ++ qs) W (by rw [List.length_append, HL.out, HK.out]) (by omega) HOK.out (fun h => by cases h) (own_hs (by rw [flat_app]; exact h)))
      clear hx0 hy0
      have l2 := block_lt_of_cell q2
      simp only at l2
      have z4 := b4.size
      have bO1 : Below w4.heap.size w4 (w4.alloc (.cells #[] 34)).drew := below_drw (below_one w4 _)
      have HO1 := Lib.hid (own_below (own3_empty' (B := w4.heap.size) w4 rfl (Nat.le_refl _)) (below_drw (Below.refl _ (w4.alloc (.cells #[] 34)))))
      have HD1 := Lib.hid (HC1.out _ (below_to b4 bO1))
      have HF1 := Lib.hid (show (flat ps).length = n * 3 by rw [flat_len, HL.out])
      have HF2 := Lib.hid (show (flat qs).length = m * 3 by rw [flat_len, HK.out])
      have hd1 : w.heap.size + 1 + 1 ≠ w.heap.size := by omega
      have hd2 : w.heap.size + 1 + 1 ≠ w.heap.size + 1 := by omega
      have hn1 : 0 < n := by omega
      have hm1 : 0 < m := by omega
      have h63a : 0 + n ≤ maxLen := by unfold maxLen; omega
      have h63b : 0 + n + m ≤ maxLen := by unfold maxLen; omega
      have hby1 : (0 + n) * 24 ≤ 140737488355328 := by omega
      have hby2 : (0 + n + m) * 24 ≤ 140737488355328 := by omega
      go_wp2_with fail
      go_region_held3 (fun w' => w'.cell? ⟨w.heap.size, 0, none⟩ = some (.slice (some ⟨ga, oa, none⟩) n ca) ∧ w'.cell? ⟨w.heap.size + 1, 0, none⟩ = some (.slice (some ⟨gb, ob, none⟩) m cb))
        (first | (exact two_set q0 q1 (by assumption) hd1 hd2) | (refine twoc q0 q1 ?_; first | exact bY2 | exact bY1 | (repeat (first | exact Below.refl _ _ | refine below_bx2 ?_ _ | refine below_drw ?_ | refine below_to ?_ (by assumption)))))
        (first
          | (refine step_append_lies _ (by rfl) _ _ 23 (by rfl) w4.heap.size 34 i0 (.agg #[.int .i64 0, .int .i64 0, .int .i64 0]) 3 24 Try.underlying23 hi hz0 hz1 hz2 rfl (by decide) (.slice (some ⟨w4.heap.size, 0, none⟩) 0 0) 0 (flat []) (by rfl) HO1.out ⟨ga, oa, none⟩ n ca (flat ps) (by rfl) HF1.out HD1.out (flat_one _) hn1 h63a hby1 bO1.size _ rfl ?_; intro g1 cap1 w5 ho5 hg5 hat5 hlt5; have bY1 : Below w4.heap.size w4 w5 := Below.grown bO1 hg5 bO1.size (fun p hp => own_base_le HO1.out hp))
          | (refine step_append_lies _ (by rfl) _ _ 23 (by rfl) w4.heap.size 34 i0 (.agg #[.int .i64 0, .int .i64 0, .int .i64 0]) 3 24 Try.underlying23 hi hz0 hz1 hz2 rfl (by decide) (.slice (some ⟨g1, 0, none⟩) (0 + n) cap1) (0 + n) (flat [] ++ flat ps) (by rfl) ho5 ⟨gb, ob, none⟩ m cb (flat qs) (by rfl) HF2.out (HC2.out _ (below_to b4 bY1)) (flat_one _) hm1 h63b hby2 bY1.size _ rfl ?_; intro g2 cap2 w6 ho6 hg6 hat6 hlt6; have bY2 : Below w4.heap.size w4 w6 := Below.grown bY1 hg6 bY1.size (fun p hp => own_base_le ho5 hp); rw [Nat.zero_add] at ho6)
          | (go_at_call 101; (with_reducible refine (HM.out _ _ _ ho6).mono ?_); rintro e w7 ⟨a7, c7, rfl, ho7, bl7⟩; have p2 := cell_to (cell_to q2 bY2) bl7; have hz := bl7.size; have bz := below_to bY2 bl7; have g3 : w7.frozen? ⟨w.heap.size + 2, 0, none⟩ = false := (bz.frozen l2).trans f2; have p2' : w7.cell? ⟨w.heap.size + 1 + 1, 0, none⟩ = some (.slice none 0 0) := p2; have g3' : w7.frozen? ⟨w.heap.size + 1 + 1, 0, none⟩ = false := g3))
      all_goals
        have b7 := below_to b4 bz
        have H7 := Lib.hid ho7
        have z6 := bY2.size
        clear ho5 ho6 ho7
        generalize modL (ps ++ qs) = LL at *
        generalize LL.length = len at *
        have HF := Lib.hid (MakW.yes HN.out (own_base (own_far (p := ⟨w.heap.size + 2, 0, none⟩) H7.out (Nat.lt_of_lt_of_le l2 z6) (.slice a7 len c7)) (Nat.le_trans z4 z6)) (b7.setCell (p := ⟨w.heap.size + 2, 0, none⟩) (Nat.le_add_right _ _) (.slice a7 len c7)))
        go_wp2_with fail
        exact bodyPost_ret (v := .agg #[.slice a7 len c7]) (by simp [results, Try.results98, go_sem, p2]) rfl HF.out
end Go.Proofs.Ytobmaajfdpcfmaa
