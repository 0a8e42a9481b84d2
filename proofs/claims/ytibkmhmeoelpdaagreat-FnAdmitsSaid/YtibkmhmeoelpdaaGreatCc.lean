/- The model's CutRegion over the translation. -/
import Derived.Test.YtibkmhmeoelpdaaGreatMh
namespace Go.Proofs.YtibkmhmeoelpdaaGreat
open Go.RowKit
open Geo (H3)

theorem own3_at0 {W : World} {B g : Nat} (h : W.heap[g]? = some (.cells #[] 104 (0, 0))) (hB : B ≤ g) : W.ownsRow B 104 3 (.slice (some ⟨g, 0, none⟩) 0 0) 0 (flat []) :=
  ⟨by simp [flat], .inr ⟨g, 0, #[], rfl, hB, h, Nat.le_refl _, Nat.zero_le _, by simp, by simp [flat]⟩⟩
theorem four_set {V X : World} {p q : Nat} {r : Addr} {a b c d u : Value} (h0 : V.cell? ⟨p, 0, none⟩ = some a) (h1 : V.cell? ⟨q, 0, none⟩ = some b) (h2 : V.cell? ⟨q, 1, none⟩ = some c) (h3 : V.cell? ⟨q, 2, none⟩ = some d) (hb : Below V.heap.size V X) (n1 : r.block ≠ p) (n2 : r.block ≠ q) :
    (X.setCell r u).cell? ⟨p, 0, none⟩ = some a ∧ (X.setCell r u).cell? ⟨q, 0, none⟩ = some b ∧ (X.setCell r u).cell? ⟨q, 1, none⟩ = some c ∧ (X.setCell r u).cell? ⟨q, 2, none⟩ = some d :=
  ⟨(World.cell?_setCell_far X r _ u n1).trans (cell_to h0 hb), (World.cell?_setCell_far X r _ u n2).trans (cell_to h1 hb), (World.cell?_setCell_far X r _ u n2).trans (cell_to h2 hb), (World.cell?_setCell_far X r _ u n2).trans (cell_to h3 hb)⟩
set_option maxRecDepth 100000 in
set_option maxHeartbeats 1600000 in
theorem spec_cut (a : Option Addr) (n ca : Nat) (ps : List H3) (xa xb xc : Int) (w : World) (hl : ps.length = n) (hn : n ≤ 1048576) (h64 : ∀ h ∈ ps, In64 h) (k64 : In64 ⟨xa, xb, xc⟩) (hz : a = none → n = 0 ∧ ca = 0) (hA : HsAt w a ps) :
    Calls Tryz.prog 110 #[.agg #[.slice a n ca], .agg #[.int .i64 xa, .int .i64 xb, .int .i64 xc]] w (AnsR w (cutA ps ⟨xa, xb, xc⟩) (cutB ps ⟨xa, xb, xc⟩)) := by
  obtain ⟨i0, hi, hz0, hz1, hz2⟩ := info_parts Tryz.info34
  have bV := below_bx2 (below_bx2 (below_one w (.cells #[.slice a n ca] 40)) (.cells #[.int .i64 xa, .int .i64 xb, .int .i64 xc] 104)) (.cells #[.slice none 0 0] 40)
  have q0 := cell_to (show (w.alloc (.cells #[.slice a n ca] 40)).cell? ⟨w.heap.size, 0, none⟩ = some (.slice a n ca) by simp) (below_bx2 (below_one _ (.cells #[.int .i64 xa, .int .i64 xb, .int .i64 xc] 104)) (.cells #[.slice none 0 0] 40))
  have T0 := has3_to (below_one _ (.cells #[.slice none 0 0] 40)) (has3_new (w.alloc (.cells #[.slice a n ca] 40)) (.int .i64 xa) (.int .i64 xb) (.int .i64 xc) 104)
  rw [show (w.alloc (.cells #[.slice a n ca] 40)).heap.size = w.heap.size + 1 by simp] at T0
  obtain ⟨q2, f2⟩ := box_one (U := (w.alloc (.cells #[.slice a n ca] 40)).alloc (.cells #[.int .i64 xa, .int .i64 xb, .int .i64 xc] 104)) (b := w.heap.size + 2) (by simp) (.slice none 0 0) 40
  have HV := Lib.hid (fun V => spec_void a n ca V)
  have HR := Lib.hid (fun V (h : Below w.heap.size w V) => spec_rok a n ca ps V hl hn h64 hz (hA.below h))
  have HH := Lib.hid (fun V => spec_hok xa xb xc V k64.1.1 k64.1.2 k64.2.1.1 k64.2.1.2 k64.2.2.1 k64.2.2.2)
  have HB := Lib.hid (show okH xa xb xc = okB ⟨xa, xb, xc⟩ from rfl)
  rw [HB.out] at HH
  have HA := Lib.hid hA
  have HL := Lib.hid hl
  clear hl hA h64 k64 HB hz
  go_enter Tryz.func110, Tryz.ntmps110
  go_wp2_with fail
  generalize ((w.alloc (.cells #[.slice a n ca] 40)).alloc (.cells #[.int .i64 xa, .int .i64 xb, .int .i64 xc] 104)).alloc (.cells #[.slice none 0 0] 40) = V at *
  refine (HR.out _ bV).mono ?_
  rintro e w1 ⟨rfl, bl1⟩
  have b1 := below_to bV bl1
  have q0' := cell_to q0 bl1
  have T1 := has3_to bl1 T0
  have q2' := cell_to q2 bl1
  have f2' : w1.frozen? ⟨w.heap.size + 2, 0, none⟩ = false := by rw [bl1.frozen (block_lt_of_cell q2)]; exact f2
  clear bV q0 T0 q2 f2 bl1 HR
  cases hr : rokB ps with
  | false =>
    have HN := Lib.hid (cut_no1 (h := ⟨xa, xb, xc⟩) hr)
    clear hr
    go_wp2_with fail
    exact bodyPost_ret (v := .tuple #[.agg #[.slice none 0 0], .bool false]) (by simp [results, Tryz.results110, go_sem, q2']) rfl (AnsR.no HN.out.1 HN.out.2 (b1.setCell (p := ⟨w.heap.size + 2, 0, none⟩) (Nat.le_add_right _ _) _))
  | true =>
    have HP := Lib.hid hr
    clear hr
    obtain ⟨t1, t2, t3, u1, u2, u3⟩ := id T1
    go_wp2_with fail
    clear t1 t2 t3 u1 u2 u3
    refine (HH.out _).mono ?_
    rintro e w2 ⟨rfl, bl2⟩
    have b2 := below_to b1 bl2
    have p0 := cell_to q0' bl2
    have T2 := has3_to bl2 T1
    have p2 := cell_to q2' bl2
    have g2 : w2.frozen? ⟨w.heap.size + 2, 0, none⟩ = false := by rw [bl2.frozen (block_lt_of_cell q2')]; exact f2'
    clear b1 q0' T1 q2' f2' bl2 HH
    cases hr : okB ⟨xa, xb, xc⟩ with
    | false =>
      have HN := Lib.hid (cut_no2 (ps := ps) hr)
      clear hr
      go_wp2_with fail
      exact bodyPost_ret (v := .tuple #[.agg #[.slice none 0 0], .bool false]) (by simp [results, Tryz.results110, go_sem, p2]) rfl (AnsR.no HN.out.1 HN.out.2 (b2.setCell (p := ⟨w.heap.size + 2, 0, none⟩) (Nat.le_add_right _ _) _))
    | true =>
      have HQ := Lib.hid hr
      clear hr
      by_cases h40 : n < 40
      · have hd' : ¬ ((40 : Int) ≤ (n : Int)) := by omega
        go_wp2_with fail
        refine (HV.out _).mono ?_
        rintro e w4 ⟨rfl, bl4⟩
        have b4 := below_to b2 bl4
        have q0 := cell_to p0 bl4
        have T4 := has3_to bl4 T2
        have q2 := cell_to p2 bl4
        have f2 : w4.frozen? ⟨w.heap.size + 2, 0, none⟩ = false := by rw [bl4.frozen (block_lt_of_cell p2)]; exact g2
        clear b2 p0 T2 p2 g2 bl4 HV
        by_cases h0 : n = 0
        · have HN := Lib.hid (cut_void HQ.out (len_nil HL.out h0))
          subst h0
          go_wp2_with fail
          exact bodyPost_ret (v := .tuple #[.agg #[.slice none 0 0], .bool true]) (by simp [results, Tryz.results110, go_sem, q2]) rfl (AnsR.no HN.out.1 HN.out.2 (b4.setCell (p := ⟨w.heap.size + 2, 0, none⟩) (Nat.le_add_right _ _) _))
        · have hb : ((n : Int) == 0) = false := eq_b (by omega)
          have HN := Lib.hid (cut_mod HL.out HP.out HQ.out h40 (len_ne HL.out h0))
          have HOK := Lib.hid (show (ps ++ [(⟨xa, xb, xc⟩ : H3)]).all okB = true by rw [List.all_append, rok_allB HP.out]; simp [HQ.out])
          obtain ⟨x0, hx0⟩ : ∃ x, ps[0]? = some x := ⟨_, List.getElem?_eq_getElem (by have := HL.out; omega)⟩
          obtain ⟨ga, oa, rfl, _⟩ := HA.out 0 _ hx0
          have HC1 := Lib.hid (fun W (h : Below w.heap.size w W) => hs_cells (HA.out.below h))
          have HM := Lib.hid (fun W g cp (h : World.ownsRow W w4.heap.size 104 3 (.slice (some ⟨g, 0, none⟩) (n + 1) cp) (n + 1) (flat [] ++ flat ps ++ flat [⟨xa, xb, xc⟩])) => spec_make (some ⟨g, 0, none⟩) (n + 1) cp (ps ++ [⟨xa, xb, xc⟩]) W (by rw [List.length_append, HL.out]; rfl) (by omega) HOK.out (fun h => by cases h) (own_hs (by rw [flat_app]; exact h)))
          clear hx0
          have l2 := block_lt_of_cell q2
          simp only at l2
          have z4 := b4.size
          have HF1 := Lib.hid (show (flat ps).length = n * 3 by rw [flat_len, HL.out])
          have HF2 := Lib.hid (show (flat [(⟨xa, xb, xc⟩ : H3)]).length = 1 * 3 from rfl)
          have hn1 : 0 < n := by omega
          have hd1 : w.heap.size + 1 + 1 ≠ w.heap.size := by omega
          have hd2 : w.heap.size + 1 + 1 ≠ w.heap.size + 1 := by omega
          have HBY1 := Lib.hid (show (0 + n) * 24 ≤ 140737488355328 by omega)
          have HBY2 := Lib.hid (show (0 + n + 1) * 24 ≤ 140737488355328 by omega)
          have HBY3 := Lib.hid (show (n + 1) * 24 ≤ 140737488355328 by omega)
          have H63c := Lib.hid (show n + 1 ≤ maxLen by unfold maxLen; omega)
          have H63a := Lib.hid (show 0 + n ≤ maxLen by unfold maxLen; omega)
          have H63b := Lib.hid (show 0 + n + 1 ≤ maxLen by unfold maxLen; omega)
          obtain ⟨t1, t2, t3, u1, u2, u3⟩ := id T4
          go_wp2_with fail
          go_region_held3 (fun w' => w'.cell? ⟨w.heap.size, 0, none⟩ = some (.slice (some ⟨ga, oa, none⟩) n ca) ∧ w'.cell? ⟨w.heap.size + 1, 0, none⟩ = some (.int .i64 xa) ∧ w'.cell? ⟨w.heap.size + 1, 1, none⟩ = some (.int .i64 xb) ∧ w'.cell? ⟨w.heap.size + 1, 2, none⟩ = some (.int .i64 xc))
            (first | (with_reducible refine fourc q0 t1 t2 t3 ?_; (first | exact bY2 | (repeat (first | exact Below.refl _ _ | exact bY1 | refine below_bx2 ?_ _ | refine below_drw ?_ | refine below_to ?_ (by assumption)))); done) | (with_reducible exact four_set q0 t1 t2 t3 (by assumption) hd1 hd2))
            (first
              | (refine step_append_lies _ (by rfl) _ _ 38 (by rfl) w4.heap.size 104 i0 (.agg #[.int .i64 0, .int .i64 0, .int .i64 0]) 3 24 Tryz.underlying38 hi hz0 hz1 hz2 rfl (by decide) (.slice (some ⟨w4.heap.size, 0, none⟩) 0 0) 0 (flat []) (by rfl) ?_ ⟨ga, oa, none⟩ n ca (flat ps) (by rfl) HF1.out ?_ (flat_one _) hn1 H63a.out HBY1.out ?_ _ rfl ?_; (focus (exact own3_at0 (at_new3 (U := w4) (Z := (.cells #[] 104)) (by repeat (first | exact Below.refl _ _ | refine below_bx2 ?_ _ | refine below_drw ?_)) rfl) (Nat.le_refl _))); (focus (exact HC1.out _ (below_to b4 (by repeat (first | exact Below.refl _ _ | refine below_bx2 ?_ _ | refine below_drw ?_))))); (focus (exact (show Below w4.heap.size w4 _ by repeat (first | exact Below.refl _ _ | refine below_bx2 ?_ _ | refine below_drw ?_)).size)); intro g1 cap1 w5 ho5 hg5 hat5 hlt5; have bY1 : Below w4.heap.size w4 w5 := (by refine Below.grown ?_ hg5 ?_ ?_; (focus (repeat (first | exact Below.refl _ _ | refine below_bx2 ?_ _ | refine below_drw ?_))); (focus (exact (show Below w4.heap.size w4 _ by repeat (first | exact Below.refl _ _ | refine below_bx2 ?_ _ | refine below_drw ?_)).size)); (focus (intro p hp; simp [Value.ownBlock] at hp; omega))); have ho5' := ho5; rw [Nat.zero_add] at ho5'; have hR5 := fun g o h ne => (hg5.block g (lt_of_block (o := o) h) ne).trans h)
              | (refine step_append_lies _ (by rfl) _ _ 38 (by rfl) w4.heap.size 104 i0 (.agg #[.int .i64 0, .int .i64 0, .int .i64 0]) 3 24 Tryz.underlying38 hi hz0 hz1 hz2 rfl (by decide) (.slice (some ⟨w4.heap.size + 1, 0, none⟩) 0 0) 0 (flat []) (by rfl) ?_ ⟨ga, oa, none⟩ n ca (flat ps) (by rfl) HF1.out ?_ (flat_one _) hn1 H63a.out HBY1.out ?_ _ rfl ?_; (focus (first | exact own3_at0 (at_new3 (U := w4.alloc (.cells #[.int .i64 xa, .int .i64 xb, .int .i64 xc] 104)) (Z := (.cells #[] 104)) (by repeat (first | exact Below.refl _ _ | refine below_bx2 ?_ _ | refine below_drw ?_)) (by simp)) (by omega) | exact own3_at0 (at_new3 (U := (w4.alloc (.cells #[.int .i64 xa, .int .i64 xb, .int .i64 xc] 104)).drew) (Z := (.cells #[] 104)) (by repeat (first | exact Below.refl _ _ | refine below_bx2 ?_ _ | refine below_drw ?_)) (by simp)) (by omega))); (focus (exact HC1.out _ (below_to b4 (by repeat (first | exact Below.refl _ _ | refine below_bx2 ?_ _ | refine below_drw ?_))))); (focus (exact (show Below w4.heap.size w4 _ by repeat (first | exact Below.refl _ _ | refine below_bx2 ?_ _ | refine below_drw ?_)).size)); intro g1 cap1 w5 ho5 hg5 hat5 hlt5; have bY1 : Below w4.heap.size w4 w5 := (by refine Below.grown ?_ hg5 ?_ ?_; (focus (repeat (first | exact Below.refl _ _ | refine below_bx2 ?_ _ | refine below_drw ?_))); (focus (exact (show Below w4.heap.size w4 _ by repeat (first | exact Below.refl _ _ | refine below_bx2 ?_ _ | refine below_drw ?_)).size)); (focus (intro p hp; simp [Value.ownBlock] at hp; omega))); have ho5' := ho5; rw [Nat.zero_add] at ho5'; have hR5 := fun g o h ne => (hg5.block g (lt_of_block (o := o) h) ne).trans h)
              | (refine step_append_lies _ (by rfl) _ _ 38 (by rfl) w4.heap.size 104 i0 (.agg #[.int .i64 0, .int .i64 0, .int .i64 0]) 3 24 Tryz.underlying38 hi hz0 hz1 hz2 rfl (by decide) (.slice (some ⟨g1, 0, none⟩) n cap1) n (flat [] ++ flat ps) (by rfl) ?_ ⟨w5.heap.size, 0, none⟩ 1 1 (flat [⟨xa, xb, xc⟩]) (by rfl) HF2.out ?_ (flat_one _) (by omega) H63c.out HBY3.out ?_ _ rfl ?_; (focus (exact own_below ho5' (by repeat (first | exact Below.refl _ _ | refine below_bx2 ?_ _ | refine below_drw ?_)))); (focus (exact World.news_of_block (cs := #[.int .i64 xa, .int .i64 xb, .int .i64 xc]) (t := 104) (fr := (0, 0)) (at_new3 (U := w5) (Z := (.cells #[.int .i64 xa, .int .i64 xb, .int .i64 xc] 104)) (by repeat (first | exact Below.refl _ _ | refine below_bx2 ?_ _ | refine below_drw ?_)) rfl))); (focus (exact (show Below w4.heap.size w4 _ by repeat (first | exact Below.refl _ _ | exact bY1 | refine below_bx2 ?_ _ | refine below_drw ?_)).size)); intro g2 cap2 w6 ho6 hg6 hat6 hlt6; have bY2 : Below w4.heap.size w4 w6 := (by refine Below.grown ?_ hg6 ?_ ?_; (focus (repeat (first | exact Below.refl _ _ | exact bY1 | refine below_bx2 ?_ _ | refine below_drw ?_))); (focus (exact (show Below w4.heap.size w4 _ by repeat (first | exact Below.refl _ _ | exact bY1 | refine below_bx2 ?_ _ | refine below_drw ?_)).size)); (focus (intro p hp; exact own_base_le ho5' hp))))
              | (refine step_append_lies _ (by rfl) _ _ 38 (by rfl) w4.heap.size 104 i0 (.agg #[.int .i64 0, .int .i64 0, .int .i64 0]) 3 24 Tryz.underlying38 hi hz0 hz1 hz2 rfl (by decide) (.slice (some ⟨g1, 0, none⟩) (0 + n) cap1) (0 + n) (flat [] ++ flat ps) (by rfl) ?_ ⟨w4.heap.size + 1, 0, none⟩ 1 1 (flat [⟨xa, xb, xc⟩]) (by rfl) HF2.out ?_ (flat_one _) (by omega) H63b.out HBY2.out ?_ _ rfl ?_; (focus (exact own_below ho5 (by repeat (first | exact Below.refl _ _ | refine below_bx2 ?_ _ | refine below_drw ?_)))); (focus (first | exact World.news_of_block (cs := #[.int .i64 xa, .int .i64 xb, .int .i64 xc]) (t := 104) (fr := (0, 0)) (hR5 _ _ (at_new3 (U := (w4.alloc (.cells #[] 104)).drew) (Z := (.cells #[.int .i64 xa, .int .i64 xb, .int .i64 xc] 104)) (by repeat (first | exact Below.refl _ _ | refine below_bx2 ?_ _ | refine below_drw ?_)) (by simp)) (by simp [Value.ownBlock])) | exact World.news_of_block (cs := #[.int .i64 xa, .int .i64 xb, .int .i64 xc]) (t := 104) (fr := (0, 0)) (hR5 _ _ (at_new3 (U := w4.alloc (.cells #[] 104)) (Z := (.cells #[.int .i64 xa, .int .i64 xb, .int .i64 xc] 104)) (by repeat (first | exact Below.refl _ _ | refine below_bx2 ?_ _ | refine below_drw ?_)) (by simp)) (by simp [Value.ownBlock])))); (focus (exact (show Below w4.heap.size w4 _ by repeat (first | exact Below.refl _ _ | exact bY1 | refine below_bx2 ?_ _ | refine below_drw ?_)).size)); intro g2 cap2 w6 ho6 hg6 hat6 hlt6; have bY2 : Below w4.heap.size w4 w6 := (by refine Below.grown ?_ hg6 ?_ ?_; (focus (repeat (first | exact Below.refl _ _ | exact bY1 | refine below_bx2 ?_ _ | refine below_drw ?_))); (focus (exact (show Below w4.heap.size w4 _ by repeat (first | exact Below.refl _ _ | exact bY1 | refine below_bx2 ?_ _ | refine below_drw ?_)).size)); (focus (intro p hp; exact own_base_le ho5 hp))); rw [Nat.zero_add] at ho6)
              | (refine step_append_lies _ (by rfl) _ _ 38 (by rfl) w4.heap.size 104 i0 (.agg #[.int .i64 0, .int .i64 0, .int .i64 0]) 3 24 Tryz.underlying38 hi hz0 hz1 hz2 rfl (by decide) (.slice (some ⟨g1, 0, none⟩) (0 + n) cap1) (0 + n) (flat [] ++ flat ps) (by rfl) ?_ ⟨w4.heap.size, 0, none⟩ 1 1 (flat [⟨xa, xb, xc⟩]) (by rfl) HF2.out ?_ (flat_one _) (by omega) H63b.out HBY2.out ?_ _ rfl ?_; (focus (exact own_below ho5 (by repeat (first | exact Below.refl _ _ | refine below_bx2 ?_ _ | refine below_drw ?_)))); (focus (exact World.news_of_block (cs := #[.int .i64 xa, .int .i64 xb, .int .i64 xc]) (t := 104) (fr := (0, 0)) (hR5 _ _ (at_new3 (U := w4) (Z := (.cells #[.int .i64 xa, .int .i64 xb, .int .i64 xc] 104)) (by repeat (first | exact Below.refl _ _ | refine below_bx2 ?_ _ | refine below_drw ?_)) rfl) (by simp [Value.ownBlock])))); (focus (exact (show Below w4.heap.size w4 _ by repeat (first | exact Below.refl _ _ | exact bY1 | refine below_bx2 ?_ _ | refine below_drw ?_)).size)); intro g2 cap2 w6 ho6 hg6 hat6 hlt6; have bY2 : Below w4.heap.size w4 w6 := (by refine Below.grown ?_ hg6 ?_ ?_; (focus (repeat (first | exact Below.refl _ _ | exact bY1 | refine below_bx2 ?_ _ | refine below_drw ?_))); (focus (exact (show Below w4.heap.size w4 _ by repeat (first | exact Below.refl _ _ | exact bY1 | refine below_bx2 ?_ _ | refine below_drw ?_)).size)); (focus (intro p hp; exact own_base_le ho5 hp))); rw [Nat.zero_add] at ho6)
              | (go_at_call 136; (with_reducible refine (HM.out _ _ _ ho6).mono ?_); rintro e w7 ⟨a7, c7, rfl, ho7, bl7⟩; have p2 := cell_to (cell_to q2 bY2) bl7; have hz := bl7.size; have bz := below_to bY2 bl7; have g3 : w7.frozen? ⟨w.heap.size + 2, 0, none⟩ = false := (bz.frozen l2).trans f2; have p2' : w7.cell? ⟨w.heap.size + 1 + 1, 0, none⟩ = some (.slice none 0 0) := p2; have g3' : w7.frozen? ⟨w.heap.size + 1 + 1, 0, none⟩ = false := g3))
          all_goals
            have b7 := below_to b4 bz
            have H7 := Lib.hid ho7
            have z6 := bY2.size
            clear ho5 ho6 ho7
            generalize modL (ps ++ [(⟨xa, xb, xc⟩ : H3)]) = LL at *
            generalize LL.length = len at *
            have HF := Lib.hid (AnsR.yes HN.out.1 HN.out.2 (own_base (own_far (p := ⟨w.heap.size + 2, 0, none⟩) H7.out (Nat.lt_of_lt_of_le l2 z6) (.slice a7 len c7)) (Nat.le_trans z4 z6)) (b7.setCell (p := ⟨w.heap.size + 2, 0, none⟩) (Nat.le_add_right _ _) (.slice a7 len c7)))
            go_wp2_with fail
            exact bodyPost_ret (v := .tuple #[.agg #[.slice a7 len c7], .bool true]) (by simp [results, Tryz.results110, go_sem, p2]) rfl HF.out
      · have HN := Lib.hid (cut_big (h := ⟨xa, xb, xc⟩) HL.out h40)
        have hd' : (40 : Int) ≤ (n : Int) := by omega
        go_wp2_with fail
        exact bodyPost_ret (v := .tuple #[.agg #[.slice none 0 0], .bool false]) (by simp [results, Tryz.results110, go_sem, p2]) rfl (AnsR.no HN.out.1 HN.out.2 (b2.setCell (p := ⟨w.heap.size + 2, 0, none⟩) (Nat.le_add_right _ _) _))
end Go.Proofs.YtibkmhmeoelpdaaGreat
