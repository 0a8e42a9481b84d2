/- The contracts of the program's slices.Clone of half planes and of its moveRegion, whatever function value moves the edges, over the translation. What ShiftRegion answers, and the contracts of the model's functions over the translation. ShiftRegion of the program and of the model over the translation. -/
import Derived.Test.YtibkmhmeoelpdaaGreatMw
import Derived.Shelf.Abstract
namespace Go.Proofs.YtibkmhmeoelpdaaGreat
open Go.RowKit
open Geo (H3)
open Go.RowKit Go.Shelf

theorem eql_nil {P : Program} (w : World) {t e : TypeId} (a : Option Addr) (l c : Nat) (h : P.underlying t = some (.slice e)) : (binOp .eql t (.slice a l c) (.slice none 0 0)).run P w = .ok (.bool a.isNone) w := by
  have h' : ∀ d : Nat, (Op.equalIn (d + 1) t (.slice a l c) (.slice none 0 0)).run P w = .ok a.isNone w := fun d => by
    cases a <;> simp [Op.equalIn, run_underlying h]
  simp only [binOp]
  simp [Op.equal, Op.maxDepth, h' 9999]
set_option maxRecDepth 100000 in
set_option maxHeartbeats 1600000 in
theorem clone_h (a : Option Addr) (n ca : Nat) (hs : List H3) (w : World) (hl : hs.length = n) (hn : n ≤ 1048576) (h0 : (a = none ∧ n = 0 ∧ ca = 0) ∨ 0 < n) (hA : HsAt w a hs) :
    Calls Tryz.prog 141 #[.slice a n ca] w fun e w' => ∃ ao cp, e = .returned (.slice ao n cp) ∧ w'.ownsRow w.heap.size 104 3 (.slice ao n cp) n (flat hs) ∧ Below w.heap.size w w' := by
  obtain ⟨i0, hi, hz0, hz1, hz2⟩ := info_parts Tryz.info34
  have hsn := fun (W : World) (x : Option Addr) (l c : Nat) => eql_nil W x l c Tryz.underlying38
  rcases h0 with ⟨rfl, rfl, rfl⟩ | h0
  · obtain rfl := List.eq_nil_of_length_eq_zero hl
    go_enter Tryz.func141, Tryz.ntmps141
    go_wp2
    go_ret
    exact ⟨none, 0, rfl, own3_none, Below.refl _ _⟩
  · obtain ⟨x0, hx0⟩ : ∃ x, hs[0]? = some x := ⟨_, List.getElem?_eq_getElem (by omega)⟩
    obtain ⟨ga, oa, rfl, _⟩ := hA 0 _ hx0
    have HF := Lib.hid (show (flat hs).length = n * 3 by rw [flat_len, hl])
    have HD := Lib.hid (hs_cells (hA.below (below_one w (.cells #[] 104))))
    have HO := Lib.hid (own3_empty' (B := w.heap.size) w rfl (Nat.le_refl _))
    clear hA hx0 hl
    go_enter Tryz.func141, Tryz.ntmps141
    go_wp2_with (at_builtin; refine wpList_append_lies _ rfl _ _ 38 rfl w.heap.size 104 i0 (.agg #[.int .i64 0, .int .i64 0, .int .i64 0]) 3 24 Tryz.underlying38 hi hz0 hz1 hz2 rfl (by decide) (.slice (some ⟨w.heap.size, 0, none⟩) 0 0) 0 (flat []) rfl HO.out ⟨ga, oa, none⟩ n ca (flat hs) rfl HF.out HD.out (flat_one _) h0 (by unfold maxLen; omega) (by omega) (by simp) _ rfl ?_; intro gg cap' w7 hown7 hgrow hat hlt7; have b7 : Below w.heap.size w w7 := Below.grown (below_one _ _) hgrow (by simp) (fun p hp => own_base_le HO.out hp); have H7 := Lib.hid hown7; clear hown7 hgrow hat)
    rw [Nat.zero_add] at H7
    go_ret
    exact ⟨_, _, rfl, H7.out, b7⟩
/-- a region whose edges are moved, cut by further half planes: its edges, and whether there is one -/
def mvB (B : H3 → Bool) (M : H3 → H3) (fu ps : List H3) : Bool := decide (ps = []) || (ps.all B && okF (fu ++ ps.map M))
def mvL (B : H3 → Bool) (M : H3 → H3) (fu ps : List H3) : List H3 := if mvB B M fu ps = true ∧ ps ≠ [] then regL (fu ++ ps.map M) else []
theorem mv_nil {B : H3 → Bool} {M : H3 → H3} {fu ps : List H3} (h : ps = []) : mvL B M fu ps = [] ∧ mvB B M fu ps = true := by
  subst h; exact ⟨by simp [mvL], by simp [mvB]⟩
theorem mv_no {B : H3 → Bool} {M : H3 → H3} {fu ps : List H3} {k : Nat} {x : H3} (h : ps[k]? = some x) (n : B x = false) : mvL B M fu ps = [] ∧ mvB B M fu ps = false := by
  have e : mvB B M fu ps = false := by
    unfold mvB
    have : ps.all B = false := by rw [List.all_eq_false]; exact ⟨x, List.mem_of_getElem? h, by simp [n]⟩
    rw [this]
    have : ps ≠ [] := by rintro rfl; simp at h
    simp [this]
  exact ⟨by unfold mvL; simp [e], e⟩
theorem mv_yes {B : H3 → Bool} {M : H3 → H3} {fu ps : List H3} (n : ps ≠ []) (h : ps.all B = true) : mvL B M fu ps = regE (fu ++ ps.map M) ∧ mvB B M fu ps = okF (fu ++ ps.map M) := by
  have e : mvB B M fu ps = okF (fu ++ ps.map M) := by unfold mvB; rw [h]; simp [n]
  refine ⟨?_, e⟩
  unfold mvL regE
  rw [e]
  by_cases q : okF (fu ++ ps.map M) = true
  · rw [if_pos ⟨q, n⟩, if_pos q]
  · rw [if_neg (fun z => q z.1), if_neg q]
theorem mv_step {M : H3 → H3} {fu ps : List H3} {k : Nat} {x : H3} (h : ps[k]? = some x) : fu ++ (ps.take (k + 1)).map M = (fu ++ (ps.take k).map M) ++ [M x] := by
  rw [List.take_add_one, h]; simp
theorem mv_take {B : H3 → Bool} {ps : List H3} {k : Nat} {x : H3} (h : ps[k]? = some x) (y : B x = true) (t : (ps.take k).all B = true) : (ps.take (k + 1)).all B = true := by
  rw [List.take_add_one, h, List.all_append, t]; simp [y]
set_option maxRecDepth 100000 in
set_option maxHeartbeats 4000000 in
theorem impl_move (f : Nat) (caps : List Value) (ef : ∀ args w, (callFunc f args).run Tryz.prog w = .ok (.enter f args) w) (B : H3 → Bool) (M : H3 → H3) (a fa : Option Addr) (n ca m fca : Nat) (ps fu : List H3) (w : World) (hl : ps.length = n) (hn : n ≤ 40) (hA : HsAt w a ps)
    (hm : fu.length = m) (hm2 : m ≤ 40) (hf0 : (fa = none ∧ m = 0 ∧ fca = 0) ∨ 0 < m) (hF : HsAt w fa fu) (f64 : ∀ h ∈ fu, In64 h) (M64 : ∀ h ∈ ps, B h = true → In64 (M h))
    (hC : ∀ (h : H3) (V : World), h ∈ ps → Below w.heap.size w V → ∃ q : H3, (B h = true → q = M h) ∧ Calls Tryz.prog f ((.agg #[.int .i64 h.a, .int .i64 h.b, .int .i64 h.c] :: caps).toArray) V fun e w' => e = .returned (.tuple #[.agg #[.int .i64 q.a, .int .i64 q.b, .int .i64 q.c], .bool (B h)]) ∧ Below V.heap.size V w') :
    Calls Tryz.prog 137 #[.agg #[.slice a n ca], .func (.func f) #[] caps.toArray, .slice fa m fca] w (AnsR w (mvL B M fu ps) (mvB B M fu ps)) := by
  obtain ⟨i0, hi, hz0, hz1, hz2⟩ := info_parts Tryz.info34
  have bV := below_bx2 (below_one w (.cells #[.slice a n ca] 40)) (.cells #[.slice none 0 0] 40)
  have q0 := cell_to (show (w.alloc (.cells #[.slice a n ca] 40)).cell? ⟨w.heap.size, 0, none⟩ = some (.slice a n ca) by simp) (below_one _ (.cells #[.slice none 0 0] 40))
  obtain ⟨q1, f1⟩ := box_one (U := w.alloc (.cells #[.slice a n ca] 40)) (b := w.heap.size + 1) (by simp) (.slice none 0 0) 40
  have HV := Lib.hid (fun V => impl_void a n ca V)
  have HK := Lib.hid (fun V (h : Below w.heap.size w V) => clone_h fa m fca fu V hm (by omega) hf0 (hF.below h))
  have HC := Lib.hid hC
  have HA := Lib.hid hA
  have HL := Lib.hid hl
  have HM := Lib.hid hm
  have H64 := Lib.hid (show ps.all B = true → ∀ h ∈ fu ++ ps.map M, In64 h from fun q => in64_app f64 (by intro h hh; obtain ⟨y, hy, rfl⟩ := List.mem_map.1 hh; exact M64 y hy (List.all_eq_true.1 q y hy)))
  clear hl hm hA hF hC hf0 f64 M64
  go_enter Tryz.func137, Tryz.ntmps137
  go_wp2_with fail
  generalize (w.alloc (.cells #[.slice a n ca] 40)).alloc (.cells #[.slice none 0 0] 40) = V at *
  refine (HV.out _).mono ?_
  rintro e w1 ⟨rfl, bl1⟩
  have b1 := below_to bV bl1
  have p0 := cell_to q0 bl1
  have p1 := cell_to q1 bl1
  have g1 : w1.frozen? ⟨w.heap.size + 1, 0, none⟩ = false := by rw [bl1.frozen (block_lt_of_cell q1)]; exact f1
  clear bV q0 q1 f1 bl1 HV
  by_cases h0 : n = 0
  · have HN := Lib.hid (mv_nil (B := B) (M := M) (fu := fu) (len_nil HL.out h0))
    subst h0
    go_wp2_with fail
    exact bodyPost_ret (v := .tuple #[.agg #[.slice none 0 0], .bool true]) (by simp [results, Tryz.results137, go_sem, p1]) rfl (AnsR.no HN.out.1 HN.out.2 (b1.setCell (p := ⟨w.heap.size + 1, 0, none⟩) (Nat.le_add_right _ _) _))
  · have hb : ((n : Int) == 0) = false := eq_b (by omega)
    go_wp2_with fail
    refine (HK.out _ b1).mono ?_
    rintro e w2 ⟨ac, cc, rfl, ho2, bl2⟩
    have b2 := below_to b1 bl2
    have q0 := cell_to p0 bl2
    have q1 := cell_to p1 bl2
    have f1 : w2.frozen? ⟨w.heap.size + 1, 0, none⟩ = false := by rw [bl2.frozen (block_lt_of_cell p1)]; exact g1
    have l1 : w.heap.size + 1 < w1.heap.size := block_lt_of_cell p1
    have z2 := bl2.size
    have z1 := b1.size
    have HO2 := Lib.hid ho2
    clear p0 p1 g1 HK ho2 bl2 b1
    go_wp2
    go_loopw [8, 21] (fun v i wr => ∃ (k : Nat) (ao : Option Addr) (cp : Nat), k ≤ n ∧ i = .int .i64 k ∧ v = .slice ao (m + k) cp ∧ (ps.take k).all B = true ∧ wr.ownsRow w1.heap.size 104 3 (.slice ao (m + k) cp) (m + k) (flat (fu ++ (ps.take k).map M)) ∧ Below w.heap.size w wr ∧ wr.cell? ⟨w.heap.size, 0, none⟩ = some (.slice a n ca) ∧ wr.cell? ⟨w.heap.size + 1, 0, none⟩ = some (.slice none 0 0) ∧ wr.frozen? ⟨w.heap.size + 1, 0, none⟩ = false ∧ w2.heap.size ≤ wr.heap.size) (fun _ i _ => n - (intOf i).toNat)
    case atStart => exact ⟨0, ac, cc, Nat.zero_le _, rfl, rfl, by simp, by simpa using HO2.out, b2, q0, q1, f1, Nat.le_refl _⟩
    case round =>
      obtain ⟨k, ao, cp, hk, rfl, rfl, hall, hov, hbw, r0, r1, s1, hz⟩ := hrel
      have H0 := Lib.hid hov
      have HT := Lib.hid hall
      clear hov hall
      by_cases hlt : k < n
      · obtain ⟨⟨xa, xb, xc⟩, hx⟩ : ∃ x, ps[k]? = some x := ⟨_, List.getElem?_eq_getElem (by rw [HL.out]; exact hlt)⟩
        have HX := Lib.hid hx
        obtain ⟨g, o, rfl, hcx⟩ := HA.out k _ hx
        obtain ⟨t1, t2, t3⟩ := hcx.to hbw
        simp only at t1 t2 t3
        have bX := below_bx2 hbw (.cells #[.int .i64 xa, .int .i64 xb, .int .i64 xc] 104)
        obtain ⟨⟨qa, qb, qc⟩, hq, hcall⟩ := HC.out ⟨xa, xb, xc⟩ _ (List.mem_of_getElem? hx) bX
        have HQ := Lib.hid hq
        have HD := Lib.hid hcall
        clear hx hcx hq hcall
        simp only at HD
        go_wp2_with fail
        refine HD.out.mono ?_
        rintro e w4 ⟨rfl, bl4⟩
        have b4 := below_to bX bl4
        have bY := below_to (below_one wr (.cells #[.int .i64 xa, .int .i64 xb, .int .i64 xc] 104)) bl4
        have c0 := cell_to r0 bY
        have c1 := cell_to r1 bY
        have d1 : w4.frozen? ⟨w.heap.size + 1, 0, none⟩ = false := by rw [bY.frozen (block_lt_of_cell r1)]; exact s1
        have H4 := Lib.hid (own_below H0.out bY)
        have z4 := bY.size
        clear bX bY bl4 r0 r1 s1 H0 HD t1 t2 t3 hbw
        cases hB : B ⟨xa, xb, xc⟩ with
        | false =>
          have HN := Lib.hid (mv_no (B := B) (M := M) (fu := fu) HX.out hB)
          clear hB
          have e1 := cell_to c1 (below_one w4 (.cells #[.int .i64 qa, .int .i64 qb, .int .i64 qc] 104))
          have e2 : (w4.alloc (.cells #[.int .i64 qa, .int .i64 qb, .int .i64 qc] 104)).frozen? ⟨w.heap.size + 1, 0, none⟩ = false := by rw [(below_one w4 (.cells #[.int .i64 qa, .int .i64 qb, .int .i64 qc] 104)).frozen (block_lt_of_cell c1)]; exact d1
          have b5 := below_bx2 b4 (.cells #[.int .i64 qa, .int .i64 qb, .int .i64 qc] 104)
          go_wp2_with fail
          exact bodyPost_ret (v := .tuple #[.agg #[.slice none 0 0], .bool false]) (by simp [results, Tryz.results137, go_sem, e1]) rfl (AnsR.no HN.out.1 HN.out.2 (b5.setCell (p := ⟨w.heap.size + 1, 0, none⟩) (Nat.le_add_right _ _) _))
        | true =>
          have HT2 := Lib.hid (mv_take HX.out hB HT.out)
          have HS := Lib.hid (show fu ++ (ps.take (k + 1)).map M = (fu ++ (ps.take k).map M) ++ [⟨qa, qb, qc⟩] by rw [mv_step HX.out, ← HQ.out hB])
          clear hB
          have bZ := below_bx2 (below_one w4 (.cells #[.int .i64 qa, .int .i64 qb, .int .i64 qc] 104)) (.cells #[.int .i64 qa, .int .i64 qb, .int .i64 qc] 104)
          have HZ := Lib.hid bZ
          have b5 := below_to b4 bZ
          obtain ⟨v1, v2, v3⟩ := tri_new w4 (.int .i64 qa) (.int .i64 qb) (.int .i64 qc) 104
          have HN1 : ((w4.alloc (.cells #[.int .i64 qa, .int .i64 qb, .int .i64 qc] 104)).alloc (.cells #[.int .i64 qa, .int .i64 qb, .int .i64 qc] 104)).heap[w4.heap.size + 1]? = some (.cells #[.int .i64 qa, .int .i64 qb, .int .i64 qc] 104 (0, 0)) := by
            have := heap_alloc_new (w4.alloc (.cells #[.int .i64 qa, .int .i64 qb, .int .i64 qc] 104)) (.cells #[.int .i64 qa, .int .i64 qb, .int .i64 qc] 104)
            rwa [World.size_alloc] at this
          have H5 := Lib.hid (own_below H4.out bZ)
          clear bZ
          go_wp2_with (at_builtin; refine wpList_append_lies _ rfl _ _ 38 rfl w1.heap.size 104 i0 (.agg #[.int .i64 0, .int .i64 0, .int .i64 0]) 3 24 Tryz.underlying38 hi hz0 hz1 hz2 rfl (by decide) (.slice ao (m + k) cp) (m + k) _ rfl H5.out ⟨w4.heap.size + 1, 0, none⟩ 1 1 [.int .i64 qa, .int .i64 qb, .int .i64 qc] rfl rfl (World.news_of_block (cs := #[.int .i64 qa, .int .i64 qb, .int .i64 qc]) (t := 104) (fr := (0, 0)) HN1) (by simp [Value.oneCell']) (by omega) (by unfold maxLen; omega) (by omega) (by simp; omega) _ rfl ?_; intro gg cap' w7 hown7 hgrow hat hlt7; have H7 := Lib.hid hown7; have HG := Lib.hid hgrow; clear hown7 hgrow hat)
          have b7 : Below w.heap.size w w7 := b5.grown HG.out b5.size (fun p hp => Nat.le_trans z1 (own_base_le H5.out hp))
          have l0 : w.heap.size < w1.heap.size := by omega
          have far : ∀ q, q < w1.heap.size → some q ≠ (Value.slice ao (m + k) cp).ownBlock := fun q hq e => by have := own_base_le H5.out e.symm; omega
          have e0 := cell_far (cell_to c0 HZ.out) HG.out (far _ l0)
          have e1 := cell_far (cell_to c1 HZ.out) HG.out (far _ l1)
          have e2 : w7.frozen? ⟨w.heap.size + 1, 0, none⟩ = false := by
            rw [World.frozen?_of_block (HG.out.block _ (block_lt_of_cell (cell_to c1 HZ.out)) (far _ l1)), HZ.out.frozen (block_lt_of_cell c1)]
            exact d1
          have z7 : w2.heap.size ≤ w7.heap.size := by
            have := HG.out.size
            have := HZ.out.size
            omega
          go_roundw
          case rel => exact ⟨k + 1, _, _, by omega, by go_num, rfl, HT2.out, by rw [HS.out, flat_app]; exact H7.out, b7, e0, e1, e2, z7⟩
          case measure => simp [intOf]; omega
      · obtain rfl : k = n := by omega
        have HE := Lib.hid (show ps.take k = ps from List.take_of_length_le (by rw [HL.out]; exact Nat.le_refl _))
        rw [HE.out] at HT H0
        have HN := Lib.hid (mv_yes (B := B) (M := M) (fu := fu) (len_ne HL.out h0) HT.out)
        have HNN := Lib.hid (show (fu ++ ps.map M).length = m + k by rw [List.length_append, List.length_map, HM.out, HL.out])
        have l1' := block_lt_of_cell r1
        simp only at l1'
        clear HE
        go_wp2_with fail
        refine (impl_from ao (m + k) cp (fu ++ ps.map M) wr HNN.out (by omega) (H64.out HT.out) (own_hs H0.out)).mono ?_
        rintro e w6 ⟨ad, cd, rfl, ho6, bl6⟩
        have b6 := below_to hbw bl6
        have p1 := cell_to r1 bl6
        have g1 : w6.frozen? ⟨w.heap.size + 1, 0, none⟩ = false := by rw [bl6.frozen l1']; exact s1
        have H6 := Lib.hid ho6
        clear ho6 bl6
        have zb := hbw.size
        generalize regE (fu ++ ps.map M) = LL at *
        generalize LL.length = len at *
        have HF := Lib.hid (AnsR.yes (L := mvL B M fu ps) (b := mvB B M fu ps) HN.out.1.symm HN.out.2 (own_base (own_far (p := ⟨w.heap.size + 1, 0, none⟩) H6.out l1' (.slice ad len cd)) zb) (b6.setCell (p := ⟨w.heap.size + 1, 0, none⟩) (Nat.le_add_right _ _) (.slice ad len cd)))
        go_wp2_with fail
        exact bodyPost_ret (v := .tuple #[.agg #[.slice ad len cd], .bool (okF (fu ++ ps.map M))]) (by simp [results, Tryz.results137, go_sem, p1]) rfl HF.out

/-- a half plane in lowest terms, zeros if it is not valid -/
def redH (a b c : Int) : H3 := ⟨kp (hasH a b c) (a.tdiv (gS a b c)), kp (hasH a b c) (b.tdiv (gS a b c)), kp (hasH a b c) (c.tdiv (gS a b c))⟩
theorem ans_red (a b c : Int) : ansH a b c = .tuple #[.agg #[.int .i64 (redH a b c).a, .int .i64 (redH a b c).b, .int .i64 (redH a b c).c], .bool (hasH a b c)] := rfl
theorem red_ok {a b c : Int} (h : hasH a b c = true) : okB (redH a b c) = true := by
  unfold redH okB
  rw [h]
  unfold hasH at h
  rw [Bool.and_eq_true] at h
  exact h.2
theorem ok_in64 {h : H3} (k : okB h = true) : In64 h := by
  obtain ⟨a1, a2, b1, b2, _, c1, c2, _⟩ := (okH_iff _ _ _).1 k
  exact ⟨⟨by omega, by omega⟩, ⟨by omega, by omega⟩, by omega, by omega⟩
theorem map_ok {B : H3 → Bool} {M : H3 → H3} (hM : ∀ h, B h = true → okB (M h) = true) {ps : List H3} (h : ps.all B = true) : (ps.map M).all okB = true := by
  rw [List.all_eq_true]
  intro x hx
  obtain ⟨y, hy, rfl⟩ := List.mem_map.1 hx
  exact hM y (List.all_eq_true.1 h y hy)
theorem AnsR.from {w V w' : World} {hs L : List H3} {b : Bool} {ao : Option Addr} {cp : Nat} (hL : L = regE hs) (hb : b = okF hs) (ho : w'.ownsRow V.heap.size 104 3 (.slice ao (regE hs).length cp) (regE hs).length (flat (regE hs))) (hV : w.heap.size ≤ V.heap.size) (hbl : Below w.heap.size w w') : AnsR w L b (.returned (.tuple #[.agg #[.slice ao (regE hs).length cp], .bool (okF hs)])) w' := by
  subst hL; subst hb
  exact ⟨ao, cp, rfl, own_base ho hV, hbl⟩
theorem mvL_len (B : H3 → Bool) (M : H3 → H3) (fu ps : List H3) : (mvL B M fu ps).length ≤ 40 := by
  unfold mvL
  split
  · rename_i h
    obtain ⟨h, n⟩ := h
    unfold mvB at h
    simp only [n, decide_false, Bool.false_or, Bool.and_eq_true] at h
    unfold okF at h
    simp only [Bool.and_eq_true, decide_eq_true_eq] at h
    exact h.2.2
  · simp
theorem AnsR.to {w V w' : World} {L M : List H3} {b c : Bool} {e : Ending} (h : AnsR V M c e w') (hL : L = M) (hb : b = c) (hV : Below w.heap.size w V) : AnsR w L b e w' := by
  subst hL; subst hb
  obtain ⟨ao, cp, e1, ho, hbl⟩ := h
  exact ⟨ao, cp, e1, own_base ho hV.size, below_to hV hbl⟩
theorem AnsR.put {w V w' : World} {L M : List H3} {b c : Bool} {ao : Option Addr} {m cp : Nat} {p : Addr} (ho : w'.ownsRow V.heap.size 104 3 (.slice ao m cp) m (flat M)) (hL : L = M) (hb : b = c) (hV : Below w.heap.size w V) (hbl : Below V.heap.size V w') (hp : p.block < V.heap.size) (hw : w.heap.size ≤ p.block) : AnsR w L b (.returned (.tuple #[.agg #[.slice ao m cp], .bool c])) (w'.setCell p (.slice ao m cp)) :=
  AnsR.yes hL.symm hb (own_base (own_far ho hp _) hV.size) ((below_to hV hbl).setCell hw _)
end Go.Proofs.YtibkmhmeoelpdaaGreat
