/- What ShiftRegion answers, and the contracts of the model's functions over the translation. -/
import Derived.Test.YtckfmgldgjnepabMv
namespace Go.Proofs.Ytckfmgldgjnepab
open Go.RowKit
open Geo (H3)

/-- a half plane in lowest terms, zeros if it is not valid -/
def redH (a b c : Int) : H3 := ⟨kp (hasH a b c) (a.tdiv (gS a b c)), kp (hasH a b c) (b.tdiv (gS a b c)), kp (hasH a b c) (c.tdiv (gS a b c))⟩
theorem ans_red (a b c : Int) : ansH a b c = .tuple #[.agg #[.int .i64 (redH a b c).a, .int .i64 (redH a b c).b, .int .i64 (redH a b c).c], .bool (hasH a b c)] := rfl
theorem red_ok {a b c : Int} (h : hasH a b c = true) : okB (redH a b c) = true := by
  unfold redH okB
  rw [h]
  unfold hasH at h
  rw [Bool.and_eq_true] at h
  exact h.2
theorem ok_in64 {h : H3} (k : okB h = true) : In64 h := by
  obtain ⟨a1, a2, b1, b2, _, c1, c2, _⟩ := (okH_iff _ _ _).1 k
  exact ⟨⟨by omega, by omega⟩, ⟨by omega, by omega⟩, by omega, by omega⟩
theorem map_ok {B : H3 → Bool} {M : H3 → H3} (hM : ∀ h, B h = true → okB (M h) = true) {ps : List H3} (h : ps.all B = true) : (ps.map M).all okB = true := by
  rw [List.all_eq_true]
  intro x hx
  obtain ⟨y, hy, rfl⟩ := List.mem_map.1 hx
  exact hM y (List.all_eq_true.1 h y hy)
theorem AnsR.from {w V w' : World} {hs L : List H3} {b : Bool} {ao : Option Addr} {cp : Nat} (hL : L = regE hs) (hb : b = okF hs) (ho : w'.ownsRow V.heap.size 61 3 (.slice ao (regE hs).length cp) (regE hs).length (flat (regE hs))) (hV : w.heap.size ≤ V.heap.size) (hbl : Below w.heap.size w w') : AnsR w L b (.returned (.tuple #[.agg #[.slice ao (regE hs).length cp], .bool (okF hs)])) w' := by
  subst hL; subst hb
  exact ⟨ao, cp, rfl, own_base ho hV, hbl⟩
/-- an edge that is moved by whole numbers -/
def shB (dx dy : Int) (h : H3) : Bool := hasH h.a h.b (h.c + h.a * dx + h.b * dy)
def shM (dx dy : Int) (h : H3) : H3 := redH h.a h.b (h.c + h.a * dx + h.b * dy)
theorem sh_ok (dx dy : Int) (h : H3) (k : shB dx dy h = true) : okB (shM dx dy h) = true := red_ok k
def In2k (d : Int) : Prop := -2000 ≤ d ∧ d ≤ 2000
theorem sh_in {dx dy : Int} (hx : In2k dx) (hy : In2k dy) {h : H3} (k : okB h = true) : (-100000000 ≤ h.a * dx ∧ h.a * dx ≤ 100000000) ∧ (-100000000 ≤ h.b * dy ∧ h.b * dy ≤ 100000000) ∧ (-50000 ≤ h.a ∧ h.a ≤ 50000) ∧ (-50000 ≤ h.b ∧ h.b ≤ 50000) ∧ (-100000000 ≤ h.c ∧ h.c ≤ 100000000) := by
  obtain ⟨a1, a2, b1, b2, _, c1, c2, _⟩ := (okH_iff _ _ _).1 k
  have m1 := mul_in h.a dx 50000 2000 a1 a2 hx.1 hx.2
  have m2 := mul_in h.b dy 50000 2000 b1 b2 hy.1 hy.2
  omega
set_option maxRecDepth 100000 in
set_option maxHeartbeats 1600000 in
theorem spec_moved (a : Option Addr) (n ca : Nat) (ps : List H3) (dx dy : Int) (w : World) (hl : ps.length = n) (hn : n ≤ 40) (hok : ∀ h ∈ ps, okB h = true) (hx : In2k dx) (hy : In2k dy) (hA : HsAt w a ps) :
    Calls Try.prog 34 #[.agg #[.slice a n ca], .int .i64 dx, .int .i64 dy] w (AnsR w (mvL (shB dx dy) (shM dx dy) [] ps) (mvB (shB dx dy) (shM dx dy) [] ps)) := by
  obtain ⟨i0, hi, hz0, hz1, hz2⟩ := info_parts Try.info34
  have bV := below_bx2 (below_bx2 (below_one w (.cells #[.slice a n ca] 28)) (.cells #[.slice none 0 0] 28)) (.cells #[] 61)
  have q0 := cell_to (show (w.alloc (.cells #[.slice a n ca] 28)).cell? ⟨w.heap.size, 0, none⟩ = some (.slice a n ca) by simp) (below_bx2 (below_one _ (.cells #[.slice none 0 0] 28)) (.cells #[] 61))
  obtain ⟨q1', f1'⟩ := box_one (U := w.alloc (.cells #[.slice a n ca] 28)) (b := w.heap.size + 1) (by simp) (.slice none 0 0) 28
  have bU := below_one ((w.alloc (.cells #[.slice a n ca] 28)).alloc (.cells #[.slice none 0 0] 28)) (.cells #[] 61)
  have q1 := cell_to q1' bU
  have f1 := (bU.frozen (block_lt_of_cell q1')).trans f1'
  have HO2 := Lib.hid (own3_empty' (B := w.heap.size + 2) ((w.alloc (.cells #[.slice a n ca] 28)).alloc (.cells #[.slice none 0 0] 28)) (b := w.heap.size + 2) (by simp) (Nat.le_refl _))
  have hzV : (((w.alloc (.cells #[.slice a n ca] 28)).alloc (.cells #[.slice none 0 0] 28)).alloc (.cells #[] 61)).heap.size = w.heap.size + 3 := by simp
  have HA := Lib.hid hA
  have HL := Lib.hid hl
  have HB := Lib.hid (fun (h : H3) (k : h ∈ ps) => sh_in hx hy (hok h k))
  clear hl hA bU q1' f1' hok hx hy
  go_enter Try.func34, Try.ntmps34
  go_wp2
  generalize ((w.alloc (.cells #[.slice a n ca] 28)).alloc (.cells #[.slice none 0 0] 28)).alloc (.cells #[] 61) = V at *
  go_loopw [8, 17] (fun v i wr => ∃ (k : Nat) (ao : Option Addr) (cp : Nat), k ≤ n ∧ i = .int .i64 k ∧ v = .slice ao k cp ∧ (ps.take k).all (shB dx dy) = true ∧ wr.ownsRow (w.heap.size + 2) 61 3 (.slice ao k cp) k (flat ((ps.take k).map (shM dx dy))) ∧ Below w.heap.size w wr ∧ wr.cell? ⟨w.heap.size, 0, none⟩ = some (.slice a n ca) ∧ wr.cell? ⟨w.heap.size + 1, 0, none⟩ = some (.slice none 0 0) ∧ wr.frozen? ⟨w.heap.size + 1, 0, none⟩ = false ∧ w.heap.size + 2 ≤ wr.heap.size) (fun _ i _ => n - (intOf i).toNat)
  case atStart => exact ⟨0, _, 0, Nat.zero_le _, rfl, rfl, by simp, by simpa using HO2.out, bV, q0, q1, f1, by omega⟩
  case round =>
    obtain ⟨k, ao, cp, hk, rfl, rfl, hall, hov, hbw, r0, r1, s1, hz⟩ := hrel
    have H0 := Lib.hid hov
    have HT := Lib.hid hall
    clear hov hall
    by_cases hlt : k < n
    · obtain ⟨⟨xa, xb, xc⟩, hx⟩ : ∃ x, ps[k]? = some x := ⟨_, List.getElem?_eq_getElem (by rw [HL.out]; exact hlt)⟩
      have HX := Lib.hid hx
      obtain ⟨g, o, rfl, hcx⟩ := HA.out k _ hx
      obtain ⟨t1, t2, t3⟩ := hcx.to hbw
      obtain ⟨⟨m1, m2⟩, ⟨m3, m4⟩, ⟨a1, a2⟩, ⟨b1, b2⟩, c1, c2⟩ := HB.out _ (List.mem_of_getElem? hx)
      simp only at t1 t2 t3 m1 m2 m3 m4 a1 a2 b1 b2 c1 c2
      have HH := Lib.hid (fun W => spec_hof xa xb (xc + xa * dx + xb * dy) W (by omega) (by omega) (by omega) (by omega) (by omega) (by omega))
      have HSB := Lib.hid (show hasH xa xb (xc + xa * dx + xb * dy) = shB dx dy ⟨xa, xb, xc⟩ from rfl)
      have HSM := Lib.hid (show redH xa xb (xc + xa * dx + xb * dy) = shM dx dy ⟨xa, xb, xc⟩ from rfl)
      rw [ans_red, HSB.out, HSM.out] at HH
      obtain ⟨⟨qa, qb, qc⟩, hq⟩ : ∃ q, shM dx dy ⟨xa, xb, xc⟩ = q := ⟨_, rfl⟩
      have HQ := Lib.hid hq
      rw [hq] at HH
      simp only at HH
      clear hx hcx hq HSB HSM
      generalize eu1 : xa * dx = u1 at *
      generalize eu2 : xb * dy = u2 at *
      have u3 : -9223372036854775808 ≤ xc + u1 ∧ xc + u1 ≤ 9223372036854775807 := by omega
      go_wp2_with fail
      refine (HH.out _).mono ?_
      rintro e w4 ⟨rfl, bl4⟩
      have bY := below_to (below_one wr (.cells #[.int .i64 xa, .int .i64 xb, .int .i64 xc] 61)) bl4
      have b4 := below_to hbw bY
      have c0 := cell_to r0 bY
      have c1 := cell_to r1 bY
      have d1 : w4.frozen? ⟨w.heap.size + 1, 0, none⟩ = false := by rw [bY.frozen (block_lt_of_cell r1)]; exact s1
      have H4 := Lib.hid (own_below H0.out bY)
      have z4 := bY.size
      clear bY bl4 r0 r1 s1 H0 HH t1 t2 t3 hbw
      cases hB : shB dx dy ⟨xa, xb, xc⟩ with
      | false =>
        have HN := Lib.hid (mv_no (B := shB dx dy) (M := shM dx dy) (fu := []) HX.out hB)
        clear hB
        have e1 := cell_to c1 (below_one w4 (.cells #[.int .i64 qa, .int .i64 qb, .int .i64 qc] 61))
        have e2 : (w4.alloc (.cells #[.int .i64 qa, .int .i64 qb, .int .i64 qc] 61)).frozen? ⟨w.heap.size + 1, 0, none⟩ = false := by rw [(below_one w4 (.cells #[.int .i64 qa, .int .i64 qb, .int .i64 qc] 61)).frozen (block_lt_of_cell c1)]; exact d1
        have b5 := below_bx2 b4 (.cells #[.int .i64 qa, .int .i64 qb, .int .i64 qc] 61)
        go_wp2_with fail
        exact bodyPost_ret (v := .tuple #[.agg #[.slice none 0 0], .bool false]) (by simp [results, Try.results34, go_sem, e1]) rfl (AnsR.no HN.out.1 HN.out.2 (b5.setCell (p := ⟨w.heap.size + 1, 0, none⟩) (Nat.le_add_right _ _) _))
      | true =>
        have HT2 := Lib.hid (mv_take HX.out hB HT.out)
        have HS := Lib.hid (show (ps.take (k + 1)).map (shM dx dy) = (ps.take k).map (shM dx dy) ++ [⟨qa, qb, qc⟩] by have := mv_step (M := shM dx dy) (fu := []) HX.out; rw [HQ.out] at this; simpa using this)
        clear hB
        have bZ := below_bx2 (below_one w4 (.cells #[.int .i64 qa, .int .i64 qb, .int .i64 qc] 61)) (.cells #[.int .i64 qa, .int .i64 qb, .int .i64 qc] 61)
        have HZ := Lib.hid bZ
        have b5 := below_to b4 bZ
        obtain ⟨v1, v2, v3⟩ := tri_new w4 (.int .i64 qa) (.int .i64 qb) (.int .i64 qc) 61
        have HN1 : ((w4.alloc (.cells #[.int .i64 qa, .int .i64 qb, .int .i64 qc] 61)).alloc (.cells #[.int .i64 qa, .int .i64 qb, .int .i64 qc] 61)).heap[w4.heap.size + 1]? = some (.cells #[.int .i64 qa, .int .i64 qb, .int .i64 qc] 61 (0, 0)) := by
          have := heap_alloc_new (w4.alloc (.cells #[.int .i64 qa, .int .i64 qb, .int .i64 qc] 61)) (.cells #[.int .i64 qa, .int .i64 qb, .int .i64 qc] 61)
          rwa [World.size_alloc] at this
        have H5 := Lib.hid (own_below H4.out bZ)
        clear bZ
        go_wp2_with (at_builtin; refine wpList_append_lies _ rfl _ _ 26 rfl (w.heap.size + 2) 61 i0 (.agg #[.int .i64 0, .int .i64 0, .int .i64 0]) 3 24 Try.underlying26 hi hz0 hz1 hz2 rfl (by decide) (.slice ao k cp) k _ rfl H5.out ⟨w4.heap.size + 1, 0, none⟩ 1 1 [.int .i64 qa, .int .i64 qb, .int .i64 qc] rfl rfl (World.news_of_block (cs := #[.int .i64 qa, .int .i64 qb, .int .i64 qc]) (t := 61) (fr := (0, 0)) HN1) (by simp [Value.oneCell']) (by omega) (by unfold maxLen; omega) (by omega) (by simp; omega) _ rfl ?_; intro gg cap' w7 hown7 hgrow hat hlt7; have H7 := Lib.hid hown7; have HG := Lib.hid hgrow; clear hown7 hgrow hat)
        have b7 : Below w.heap.size w w7 := b5.grown HG.out b5.size (fun p hp => Nat.le_trans (Nat.le_add_right _ _) (own_base_le H5.out hp))
        have far : ∀ q, q < w.heap.size + 2 → some q ≠ (Value.slice ao k cp).ownBlock := fun q hq e => by have := own_base_le H5.out e.symm; omega
        have e0 := cell_far (cell_to c0 HZ.out) HG.out (far w.heap.size (by omega))
        have e1 := cell_far (cell_to c1 HZ.out) HG.out (far (w.heap.size + 1) (by omega))
        have e2 : w7.frozen? ⟨w.heap.size + 1, 0, none⟩ = false := by
          rw [World.frozen?_of_block (HG.out.block _ (block_lt_of_cell (cell_to c1 HZ.out)) (far (w.heap.size + 1) (by omega))), HZ.out.frozen (block_lt_of_cell c1)]
          exact d1
        have z7 : w.heap.size + 2 ≤ w7.heap.size := by
          have := HG.out.size
          have := HZ.out.size
          omega
        go_roundw
        case rel => exact ⟨k + 1, _, _, by omega, by go_num, rfl, HT2.out, by rw [HS.out, flat_app]; exact H7.out, b7, e0, e1, e2, z7⟩
        case measure => simp [intOf]; omega
    · obtain rfl : k = n := by omega
      have HE := Lib.hid (show ps.take k = ps from List.take_of_length_le (by rw [HL.out]; exact Nat.le_refl _))
      rw [HE.out] at HT H0
      have l1' := block_lt_of_cell r1
      simp only at l1'
      clear HE
      by_cases h0 : k = 0
      · have HN := Lib.hid (mv_nil (B := shB dx dy) (M := shM dx dy) (fu := []) (len_nil HL.out h0))
        have hb0 : ((k : Int) == 0) = true := by subst h0; rfl
        go_wp2_with fail
        exact bodyPost_ret (v := .tuple #[.agg #[.slice none 0 0], .bool true]) (by simp [results, Try.results34, go_sem, r1]) rfl (AnsR.no HN.out.1 HN.out.2 (hbw.setCell (p := ⟨w.heap.size + 1, 0, none⟩) (Nat.le_add_right _ _) _))
      · have HN := Lib.hid (mv_yes (B := shB dx dy) (M := shM dx dy) (fu := []) (len_ne HL.out h0) HT.out)
        rw [List.nil_append] at HN
        have HNN := Lib.hid (show (ps.map (shM dx dy)).length = k by rw [List.length_map, HL.out])
        have hb0 : ((k : Int) == 0) = false := eq_b (by omega)
        go_wp2_with fail
        refine (spec_fit ao k cp (ps.map (shM dx dy)) wr HNN.out (by omega) (map_ok (sh_ok dx dy) HT.out) (own_nil H0.out) (own_hs H0.out)).mono ?_
        rintro e w6 ⟨ad, cd, rfl, ho6, bl6⟩
        have b6 := below_to hbw bl6
        have p1 := cell_to r1 bl6
        have g1 : w6.frozen? ⟨w.heap.size + 1, 0, none⟩ = false := by rw [bl6.frozen l1']; exact s1
        have H6 := Lib.hid ho6
        clear ho6 bl6
        have zb := hbw.size
        generalize regE (ps.map (shM dx dy)) = LL at *
        generalize LL.length = len at *
        have HF := Lib.hid (AnsR.yes HN.out.1.symm HN.out.2 (own_base (own_far (p := ⟨w.heap.size + 1, 0, none⟩) H6.out l1' (.slice ad len cd)) zb) (b6.setCell (p := ⟨w.heap.size + 1, 0, none⟩) (Nat.le_add_right _ _) (.slice ad len cd)))
        go_wp2_with fail
        exact bodyPost_ret (v := .tuple #[.agg #[.slice ad len cd], .bool (okF (ps.map (shM dx dy)))]) (by simp [results, Try.results34, go_sem, p1]) rfl HF.out
end Go.Proofs.Ytckfmgldgjnepab
