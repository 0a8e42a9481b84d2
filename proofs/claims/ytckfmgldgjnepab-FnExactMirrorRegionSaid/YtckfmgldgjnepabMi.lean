/- MirrorRegion of the program and of the model over the translation. -/
import Derived.Test.YtckfmgldgjnepabSi
namespace Go.Proofs.Ytckfmgldgjnepab
open Go.RowKit Go.Shelf
open Geo (H3)

def mirM (h : H3) : H3 := ⟨-h.a, -h.b, h.c⟩
def mirT (_ : H3) : Bool := true
theorem mir_ok {h : H3} (k : okB h = true) : okB (mirM h) = true := by
  obtain ⟨a1, a2, b1, b2, n, c1, c2, g⟩ := (okH_iff _ _ _).1 k
  refine (okH_iff _ _ _).2 ⟨?_, ?_, ?_, ?_, ?_, c1, c2, ?_⟩
  · show -50000 ≤ -h.a; omega
  · show -h.a ≤ 50000; omega
  · show -50000 ≤ -h.b; omega
  · show -h.b ≤ 50000; omega
  · show -h.a ≠ 0 ∨ -h.b ≠ 0; omega
  · show gS (-h.a) (-h.b) h.c = 1
    rw [← g]; unfold gS; rw [Int.gcd_neg, Int.neg_gcd]
theorem mir_all {ps : List H3} (h : ∀ x ∈ ps, okB x = true) : (ps.map mirM).all okB = true := by
  rw [List.all_eq_true]; intro x hx; obtain ⟨y, hy, rfl⟩ := List.mem_map.1 hx; exact mir_ok (h y hy)
theorem mir_true (ps : List H3) : ps.all mirT = true := by rw [List.all_eq_true]; intro _ _; rfl
set_option maxHeartbeats 1600000 in
theorem mir_call (h : H3) (w : World) (k : okB h = true) :
    Calls Try.prog 68 #[.agg #[.int .i64 h.a, .int .i64 h.b, .int .i64 h.c]] w fun e w' => e = .returned (.tuple #[.agg #[.int .i64 (mirM h).a, .int .i64 (mirM h).b, .int .i64 (mirM h).c], .bool (mirT h)]) ∧ Below w.heap.size w w' := by
  obtain ⟨a1, a2, b1, b2, _, c1, c2, _⟩ := (okH_iff _ _ _).1 k
  obtain ⟨xa, xb, xc⟩ := h
  unfold mirM mirT
  simp only at a1 a2 b1 b2 c1 c2 ⊢
  clear k
  go_enter Try.func68, Try.ntmps68
  go_wp2
  exact bodyPost_ret (v := .tuple #[.agg #[.int .i64 (-xa), .int .i64 (-xb), .int .i64 xc], .bool true]) (by simp [results, Try.results68, go_sem]) rfl ⟨rfl, below_bx2 (below_one _ _) _⟩
/-- what MirrorRegion answers -/
def mirB (ps : List H3) : Bool := rokB ps && mvB mirT mirM [] ps
def mirL (ps : List H3) : List H3 := if rokB ps = true then mvL mirT mirM [] ps else []
theorem mir_no {ps : List H3} (h : rokB ps = false) : mirL ps = [] ∧ mirB ps = false := ⟨by unfold mirL; rw [h]; rfl, by unfold mirB; rw [h]; rfl⟩
theorem mir_yes {ps : List H3} (h : rokB ps = true) : mirL ps = mvL mirT mirM [] ps ∧ mirB ps = mvB mirT mirM [] ps := ⟨if_pos h, by unfold mirB; rw [h]; rfl⟩
set_option maxRecDepth 100000 in
set_option maxHeartbeats 1600000 in
theorem impl_mir (a : Option Addr) (n ca : Nat) (ps : List H3) (w : World) (hl : ps.length = n) (hn : n ≤ 1048576) (h64 : ∀ h ∈ ps, In64 h) (_hz : a = none → n = 0 ∧ ca = 0) (hA : HsAt w a ps) :
    Calls Try.prog 30 #[.agg #[.slice a n ca]] w (AnsR w (mirL ps) (mirB ps)) := by
  have bV := below_bx2 (below_one w (.cells #[.slice a n ca] 28)) (.cells #[.slice none 0 0] 28)
  have q0 := cell_to (show (w.alloc (.cells #[.slice a n ca] 28)).cell? ⟨w.heap.size, 0, none⟩ = some (.slice a n ca) by simp) (below_one _ (.cells #[.slice none 0 0] 28))
  obtain ⟨q3, f3⟩ := box_one (U := w.alloc (.cells #[.slice a n ca] 28)) (b := w.heap.size + 1) (by simp) (.slice none 0 0) 28
  have HR := Lib.hid (fun V (h : Below w.heap.size w V) => impl_rok a n ca ps V hl hn h64 (hA.below h))
  have HA := Lib.hid hA
  have HL := Lib.hid hl
  clear hl hA h64
  go_enter Try.func30, Try.ntmps30
  go_wp2_with fail
  generalize (w.alloc (.cells #[.slice a n ca] 28)).alloc (.cells #[.slice none 0 0] 28) = V at *
  refine (HR.out _ bV).mono ?_
  rintro e w2 ⟨rfl, bl2⟩
  have b2 := below_to bV bl2
  have p0 := cell_to q0 bl2
  have p3 := cell_to q3 bl2
  have g3 : w2.frozen? ⟨w.heap.size + 1, 0, none⟩ = false := by rw [bl2.frozen (block_lt_of_cell q3)]; exact f3
  clear bV bl2 q0 q3 f3 HR
  cases hr : rokB ps with
  | false =>
    have HN := Lib.hid (mir_no hr)
    clear hr
    go_wp2_with fail
    exact bodyPost_ret (v := .tuple #[.agg #[.slice none 0 0], .bool false]) (by simp [results, Try.results30, go_sem, p3]) rfl (AnsR.no HN.out.1 HN.out.2 (b2.setCell (p := ⟨w.heap.size + 1, 0, none⟩) (Nat.le_add_right _ _) _))
  | true =>
    have HN := Lib.hid (mir_yes hr)
    have h40 := rok_len hr
    have HM2 := Lib.hid (impl_move 68 [] (enters_of Try.func68 (by kernel_rfl) rfl) mirT mirM a none n ca 0 0 ps [] w2 HL.out (by rw [← HL.out]; exact h40) (HA.out.below b2) rfl (by omega) (.inl ⟨rfl, rfl, rfl⟩) (fun i x hx => by simp at hx) (by simp) (fun h hh _ => ok_in64 (mir_ok (rok_all hr h hh)))
      (fun h X hh hX => ⟨mirM h, fun _ => rfl, mir_call h X (rok_all hr h hh)⟩))
    clear hr h40
    go_wp2_with fail
    refine HM2.out.mono ?_
    rintro e w3 ⟨ad, cd, rfl, ho3, bl3⟩
    have l3 := block_lt_of_cell p3
    simp only at l3
    have r3 := cell_to p3 bl3
    have k3 : w3.frozen? ⟨w.heap.size + 1, 0, none⟩ = false := by rw [bl3.frozen l3]; exact g3
    have HO := Lib.hid ho3
    have HB := Lib.hid bl3
    clear ho3 bl3 HM2
    obtain ⟨LL, hLL⟩ : ∃ LL, mvL mirT mirM [] ps = LL := ⟨_, rfl⟩
    obtain ⟨len, hlen⟩ : ∃ len, LL.length = len := ⟨_, rfl⟩
    rw [hLL] at HO HN ⊢
    rw [hlen] at HO ⊢
    generalize mvB mirT mirM [] ps = r at *
    have HF := Lib.hid (AnsR.put (p := ⟨w.heap.size + 1, 0, none⟩) (w := w) HO.out HN.out.1 HN.out.2 b2 HB.out l3 (Nat.le_add_right _ _))
    go_wp2_with fail
    exact bodyPost_ret (v := .tuple #[.agg #[.slice ad len cd], .bool r]) (by simp [results, Try.results30, go_sem, r3]) rfl HF.out
set_option maxRecDepth 100000 in
set_option maxHeartbeats 1600000 in
theorem spec_mir (a : Option Addr) (n ca : Nat) (ps : List H3) (w : World) (hl : ps.length = n) (hn : n ≤ 1048576) (h64 : ∀ h ∈ ps, In64 h) (hz : a = none → n = 0 ∧ ca = 0) (hA : HsAt w a ps) :
    Calls Try.prog 29 #[.agg #[.slice a n ca]] w (AnsR w (mirL ps) (mirB ps)) := by
  obtain ⟨i0, hi, hz0, hz1, hz2⟩ := info_parts Try.info34
  have bV := below_bx2 (below_one w (.cells #[.slice a n ca] 28)) (.cells #[.slice none 0 0] 28)
  have q0 := cell_to (show (w.alloc (.cells #[.slice a n ca] 28)).cell? ⟨w.heap.size, 0, none⟩ = some (.slice a n ca) by simp) (below_one _ (.cells #[.slice none 0 0] 28))
  obtain ⟨q3, f3⟩ := box_one (U := w.alloc (.cells #[.slice a n ca] 28)) (b := w.heap.size + 1) (by simp) (.slice none 0 0) 28
  have HR := Lib.hid (fun V (h : Below w.heap.size w V) => spec_rok a n ca ps V hl hn h64 hz (hA.below h))
  have HA := Lib.hid hA
  have HL := Lib.hid hl
  clear hl hA h64 hz
  go_enter Try.func29, Try.ntmps29
  go_wp2_with fail
  generalize (w.alloc (.cells #[.slice a n ca] 28)).alloc (.cells #[.slice none 0 0] 28) = V at *
  refine (HR.out _ bV).mono ?_
  rintro e w2 ⟨rfl, bl2⟩
  have b2 := below_to bV bl2
  have p0 := cell_to q0 bl2
  have p3 := cell_to q3 bl2
  have g3 : w2.frozen? ⟨w.heap.size + 1, 0, none⟩ = false := by rw [bl2.frozen (block_lt_of_cell q3)]; exact f3
  clear bV bl2 q0 q3 f3 HR
  cases hr : rokB ps with
  | false =>
    have HN := Lib.hid (mir_no hr)
    clear hr
    go_wp2_with fail
    exact bodyPost_ret (v := .tuple #[.agg #[.slice none 0 0], .bool false]) (by simp [results, Try.results29, go_sem, p3]) rfl (AnsR.no HN.out.1 HN.out.2 (b2.setCell (p := ⟨w.heap.size + 1, 0, none⟩) (Nat.le_add_right _ _) _))
  | true =>
    have HN := Lib.hid (mir_yes hr)
    have HK := Lib.hid (rok_all hr)
    have h40 : n ≤ 40 := by have := rok_len hr; have := HL.out; omega
    clear hr
    have bU := below_one w2 (.cells #[] 61)
    have b3 := below_to b2 bU
    have s0 := cell_to p0 bU
    have s3 := cell_to p3 bU
    have k3 : (w2.alloc (.cells #[] 61)).frozen? ⟨w.heap.size + 1, 0, none⟩ = false := by rw [bU.frozen (block_lt_of_cell p3)]; exact g3
    have HO2 := Lib.hid (own3_empty' (B := w2.heap.size) w2 rfl (Nat.le_refl _))
    have z2 : w.heap.size + 1 < w2.heap.size := block_lt_of_cell p3
    have zV2 := bU.size
    clear bU p0 p3 g3
    go_wp2
    generalize w2.alloc (.cells #[] 61) = V2 at *
    go_loopw [4, 15] (fun v i wr => ∃ (k : Nat) (ao : Option Addr) (cp : Nat), k ≤ n ∧ i = .int .i64 k ∧ v = .slice ao k cp ∧ wr.ownsRow w2.heap.size 61 3 (.slice ao k cp) k (flat ((ps.take k).map mirM)) ∧ Below w.heap.size w wr ∧ wr.cell? ⟨w.heap.size + 1, 0, none⟩ = some (.slice none 0 0) ∧ wr.frozen? ⟨w.heap.size + 1, 0, none⟩ = false ∧ w2.heap.size ≤ wr.heap.size) (fun _ i _ => n - (intOf i).toNat)
    case atStart => exact ⟨0, _, 0, Nat.zero_le _, rfl, rfl, by simpa using HO2.out, b3, s3, k3, zV2⟩
    case round =>
      obtain ⟨k, ao, cp, hk, rfl, rfl, hov, hbw, r1, s1, hz⟩ := hrel
      have H0 := Lib.hid hov
      clear hov
      by_cases hlt : k < n
      · obtain ⟨⟨xa, xb, xc⟩, hx⟩ : ∃ x, ps[k]? = some x := ⟨_, List.getElem?_eq_getElem (by rw [HL.out]; exact hlt)⟩
        have HX := Lib.hid hx
        obtain ⟨g, o, rfl, hcx⟩ := HA.out k _ hx
        obtain ⟨t1, t2, t3⟩ := hcx.to hbw
        obtain ⟨a1, a2, b1, b2', _, c1, c2, _⟩ := (okH_iff _ _ _).1 (HK.out _ (List.mem_of_getElem? hx))
        simp only at t1 t2 t3 a1 a2 b1 b2' c1 c2
        have HS := Lib.hid (show (ps.take (k + 1)).map mirM = (ps.take k).map mirM ++ [⟨-xa, -xb, xc⟩] by have := mv_step (M := mirM) (fu := []) hx; rw [show mirM ⟨xa, xb, xc⟩ = ⟨-xa, -xb, xc⟩ from rfl] at this; simpa using this)
        clear hx hcx
        have bZ := below_bx2 (below_one wr (.cells #[.int .i64 xa, .int .i64 xb, .int .i64 xc] 61)) (.cells #[.int .i64 (-xa), .int .i64 (-xb), .int .i64 xc] 61)
        have HZ := Lib.hid bZ
        have b5 := below_to hbw bZ
        have HN1 : ((wr.alloc (.cells #[.int .i64 xa, .int .i64 xb, .int .i64 xc] 61)).alloc (.cells #[.int .i64 (-xa), .int .i64 (-xb), .int .i64 xc] 61)).heap[wr.heap.size + 1]? = some (.cells #[.int .i64 (-xa), .int .i64 (-xb), .int .i64 xc] 61 (0, 0)) := by
          have := heap_alloc_new (wr.alloc (.cells #[.int .i64 xa, .int .i64 xb, .int .i64 xc] 61)) (.cells #[.int .i64 (-xa), .int .i64 (-xb), .int .i64 xc] 61)
          rwa [World.size_alloc] at this
        have H5 := Lib.hid (own_below H0.out bZ)
        clear bZ
        go_wp2_with (at_builtin; refine wpList_append_lies _ rfl _ _ 26 rfl w2.heap.size 61 i0 (.agg #[.int .i64 0, .int .i64 0, .int .i64 0]) 3 24 Try.underlying26 hi hz0 hz1 hz2 rfl (by decide) (.slice ao k cp) k _ rfl H5.out ⟨wr.heap.size + 1, 0, none⟩ 1 1 [.int .i64 (-xa), .int .i64 (-xb), .int .i64 xc] rfl rfl (World.news_of_block (cs := #[.int .i64 (-xa), .int .i64 (-xb), .int .i64 xc]) (t := 61) (fr := (0, 0)) HN1) (by simp [Value.oneCell']) (by omega) (by unfold maxLen; omega) (by omega) (by simp; omega) _ rfl ?_; intro gg cap' w7 hown7 hgrow hat hlt7; have H7 := Lib.hid hown7; have HG := Lib.hid hgrow; clear hown7 hgrow hat)
        have b7 : Below w.heap.size w w7 := b5.grown HG.out b5.size (fun p hp => Nat.le_trans (by omega) (own_base_le H5.out hp))
        have far : ∀ q, q < w2.heap.size → some q ≠ (Value.slice ao k cp).ownBlock := fun q hq e => by have := own_base_le H5.out e.symm; omega
        have e1 := cell_far (cell_to r1 HZ.out) HG.out (far (w.heap.size + 1) (by omega))
        have e2 : w7.frozen? ⟨w.heap.size + 1, 0, none⟩ = false := by
          rw [World.frozen?_of_block (HG.out.block _ (block_lt_of_cell (cell_to r1 HZ.out)) (far (w.heap.size + 1) (by omega))), HZ.out.frozen (block_lt_of_cell r1)]
          exact s1
        have z7 : w2.heap.size ≤ w7.heap.size := by
          have := HG.out.size
          have := HZ.out.size
          omega
        go_roundw
        case rel => exact ⟨k + 1, _, _, by omega, by go_num, rfl, by rw [HS.out, flat_app]; exact H7.out, b7, e1, e2, z7⟩
        case measure => simp [intOf]; omega
      · obtain rfl : k = n := by omega
        have HE := Lib.hid (show ps.take k = ps from List.take_of_length_le (by rw [HL.out]; exact Nat.le_refl _))
        rw [HE.out] at H0
        have l1' := block_lt_of_cell r1
        simp only at l1'
        clear HE
        by_cases h0 : k = 0
        · have HN2 := Lib.hid (mv_nil (B := mirT) (M := mirM) (fu := []) (len_nil HL.out h0))
          rw [HN2.out.1, HN2.out.2] at HN
          have hb0 : ((k : Int) == 0) = true := by subst h0; rfl
          go_wp2_with fail
          exact bodyPost_ret (v := .tuple #[.agg #[.slice none 0 0], .bool true]) (by simp [results, Try.results29, go_sem, r1]) rfl (AnsR.no HN.out.1 HN.out.2 (hbw.setCell (p := ⟨w.heap.size + 1, 0, none⟩) (Nat.le_add_right _ _) _))
        · have HN2 := Lib.hid (mv_yes (B := mirT) (M := mirM) (fu := []) (len_ne HL.out h0) (mir_true ps))
          rw [List.nil_append] at HN2
          rw [HN2.out.1, HN2.out.2] at HN
          have HNN := Lib.hid (show (ps.map mirM).length = k by rw [List.length_map, HL.out])
          have hb0 : ((k : Int) == 0) = false := eq_b (by omega)
          go_wp2_with fail
          refine (spec_fit ao k cp (ps.map mirM) wr HNN.out (by omega) (mir_all HK.out) (own_nil H0.out) (own_hs H0.out)).mono ?_
          rintro e w6 ⟨ad, cd, rfl, ho6, bl6⟩
          have b6 := below_to hbw bl6
          have p1 := cell_to r1 bl6
          have g1 : w6.frozen? ⟨w.heap.size + 1, 0, none⟩ = false := by rw [bl6.frozen l1']; exact s1
          have H6 := Lib.hid ho6
          clear ho6 bl6
          have zb := hbw.size
          generalize regE (ps.map mirM) = LL at *
          generalize LL.length = len at *
          have HF := Lib.hid (AnsR.yes HN.out.1.symm HN.out.2 (own_base (own_far (p := ⟨w.heap.size + 1, 0, none⟩) H6.out l1' (.slice ad len cd)) zb) (b6.setCell (p := ⟨w.heap.size + 1, 0, none⟩) (Nat.le_add_right _ _) (.slice ad len cd)))
          go_wp2_with fail
          exact bodyPost_ret (v := .tuple #[.agg #[.slice ad len cd], .bool (okF (ps.map mirM))]) (by simp [results, Try.results29, go_sem, p1]) rfl HF.out
end Go.Proofs.Ytckfmgldgjnepab
