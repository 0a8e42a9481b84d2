/- The program's IsWithin over the translation. The model's IsWithin over the translation, and the walk of its law. -/
import Derived.Test.YtibkmhmeoelpdaaGreatCg
import Derived.Test.YtibkmhmeoelpdaaGreatCv
namespace Go.Proofs.YtibkmhmeoelpdaaGreat
open Go.RowKit Go.Shelf
open Geo (H3)
open Go.RowKit

attribute [local go_sem] Oper.semAt_some

def ahB (hs : List H3) (p : H3) : Bool := hs.all (fun h => decide (sideV h.a h.b h.c p.a p.b p.c ≤ 0))
theorem ah_no {hs : List H3} {k : Nat} {z p : H3} (h : hs[k]? = some z) (n : decide (sideV z.a z.b z.c p.a p.b p.c ≤ 0) = false) : ahB hs p = false := by
  unfold ahB; rw [List.all_eq_false]; exact ⟨z, List.mem_of_getElem? h, by simpa using n⟩
theorem ah_take {hs : List H3} {k : Nat} {z p : H3} (h : hs[k]? = some z) (t : decide (sideV z.a z.b z.c p.a p.b p.c ≤ 0) = true) (a : ahB (hs.take k) p = true) : ahB (hs.take (k + 1)) p = true := by
  unfold ahB at *; rw [List.take_add_one, h, List.all_append, a]; simpa using t
set_option maxHeartbeats 1600000 in
theorem all_hold (a : Option Addr) (n cap : Nat) (hs : List H3) (x y d : Int) (w : World) (hl : hs.length = n) (hn : n ≤ 1048576) (hok : ∀ h ∈ hs, okB h = true) (hp : okS x y d = true) (hA : HsAt w a hs) :
    Calls Tryz.prog 65 #[.slice a n cap, .agg #[.int .i64 x, .int .i64 y, .int .i64 d]] w fun e w' => e = .returned (.bool (ahB hs ⟨x, y, d⟩)) ∧ Below w.heap.size w w' := by
  have b1 := below_one w (.cells #[.int .i64 x, .int .i64 y, .int .i64 d] 45)
  have r1 := tri_new w (.int .i64 x) (.int .i64 y) (.int .i64 d) 45
  have HL := Lib.hid hl
  have HA := Lib.hid hA
  have HC := Lib.hid (fun (h : H3) (k : h ∈ hs) (r : Bool) (e : decide (sideV h.a h.b h.c x y d ≤ 0) = r) W => holdc (hok h k) hp e W)
  clear hl hA hok hp
  go_enter Tryz.func65, Tryz.ntmps65
  go_wp2
  generalize w.alloc (.cells #[.int .i64 x, .int .i64 y, .int .i64 d] 45) = V at *
  go_loopw [9] (fun i wr => ∃ k : Nat, k ≤ n ∧ i = .int .i64 k ∧ ahB (hs.take k) ⟨x, y, d⟩ = true ∧ Below V.heap.size V wr) (fun i _ => n - (intOf i).toNat)
  case atStart => exact ⟨0, Nat.zero_le _, rfl, by simp [ahB], Below.refl _ _⟩
  case round =>
    obtain ⟨k, hk, rfl, ht, hbel⟩ := hrel
    have HT := Lib.hid ht
    have hbw := below_to b1 hbel
    have r2 := r1.to hbel
    clear ht
    by_cases hlt : k < n
    · obtain ⟨⟨xa, xb, xc⟩, hx⟩ : ∃ x, hs[k]? = some x := ⟨_, List.getElem?_eq_getElem (by rw [HL.out]; exact hlt)⟩
      obtain ⟨g, o, rfl, hc⟩ := HA.out k _ hx
      obtain ⟨t1, t2, t3⟩ := hc.to hbw
      simp only at t1 t2 t3
      have HX := Lib.hid hx
      have bn := below_one wr (.cells #[.int .i64 xa, .int .i64 xb, .int .i64 xc] 104)
      obtain ⟨s1, s2, s3⟩ := r2.to bn
      cases hr : decide (sideV xa xb xc x y d ≤ 0) with
      | false =>
        have HD := Lib.hid (HC.out _ (List.mem_of_getElem? hx) false hr)
        have HN := Lib.hid (ah_no (p := ⟨x, y, d⟩) HX.out hr)
        clear hx hc hr
        go_wp2_with fail
        refine (HD.out _).mono ?_
        rintro e w4 ⟨rfl, bl4⟩
        go_wp2
        go_ret
        exact ⟨ret_bool HN.out.symm, below_to (below_to hbw bn) bl4⟩
      | true =>
        have HD := Lib.hid (HC.out _ (List.mem_of_getElem? hx) true hr)
        have HN := Lib.hid (ah_take (p := ⟨x, y, d⟩) HX.out hr HT.out)
        clear hx hc hr
        go_wp2_with fail
        refine (HD.out _).mono ?_
        rintro e w4 ⟨rfl, bl4⟩
        go_wp2
        go_roundw
        case rel => exact ⟨k + 1, by omega, by go_num, HN.out, below_to (below_to hbel bn) bl4⟩
        case measure => simp [intOf]; omega
    · obtain rfl : k = n := by omega
      have HN := Lib.hid (show ahB hs ⟨x, y, d⟩ = true by have := HT.out; rwa [List.take_of_length_le (by rw [HL.out]; exact Nat.le_refl _)] at this)
      go_wp2
      go_ret
      exact ⟨ret_bool HN.out.symm, hbw⟩
/-- whether a region lies within another one -/
noncomputable def wiB (ps qs : List H3) : Bool := rokB ps && rokB qs && (decide (ps = []) || (decide (qs ≠ []) && (corR ps).all (ahB qs)))
theorem wi_no1 {ps qs : List H3} (h : rokB ps = false) : wiB ps qs = false := by unfold wiB; rw [h]; rfl
theorem wi_no2 {ps qs : List H3} (h : rokB qs = false) : wiB ps qs = false := by unfold wiB; rw [h]; simp
theorem wi_void {ps qs : List H3} {n m : Nat} (hl : ps.length = n) (hk : qs.length = m) (h : rokB ps = true) (k : rokB qs = true) (e : m = 0) : wiB ps qs = ((n : Int) == 0) := by
  have := len_nil hk e
  subst this
  unfold wiB; rw [h, k]
  by_cases q : n = 0
  · have := len_nil hl q; subst this; subst q; simp
  · have := len_ne hl q; rw [eq_b (show ¬ (n : Int) = 0 by omega)]; simp [this]
theorem wi_yes {ps qs : List H3} (h : rokB ps = true) (k : rokB qs = true) (e : qs ≠ []) (c : ∀ x ∈ cnrL ps (cntC ps), ahB qs x.1.2 = true) : wiB ps qs = true := by
  unfold wiB; rw [h, k]
  have : (corR ps).all (ahB qs) = true := by
    rw [List.all_eq_true]
    intro y hy
    obtain ⟨i, hi, rfl⟩ := corR_mem.1 hy
    have := c (cnrF ps i) (by unfold cnrL; simp only [List.mem_map, List.mem_range]; exact ⟨i, hi, rfl⟩)
    rwa [(cnrF_pt hi).1] at this
  simp [e, this]
theorem wi_out {ps qs : List H3} {m : Nat} (hm : m ≤ cntC ps) {x : Cnr} (hx : x ∈ cnrL ps m) (c : ahB qs x.1.2 = false) : wiB ps qs = false := by
  unfold cnrL at hx
  simp only [List.mem_map, List.mem_range] at hx
  obtain ⟨i, hi, rfl⟩ := hx
  have hi' : i < cntC ps := by omega
  obtain ⟨e, r, l⟩ := cnrF_pt hi'
  rw [e] at c
  have ne : ps ≠ [] := by rintro rfl; simp at l
  have : (corR ps).all (ahB qs) = false := by
    rw [List.all_eq_false]; exact ⟨_, corR_mem.2 ⟨i, hi', rfl⟩, by simp [c]⟩
  unfold wiB; simp [ne, this]
set_option maxRecDepth 100000 in
set_option maxHeartbeats 2000000 in
theorem impl_wi (a b : Option Addr) (n m ca cb : Nat) (ps qs : List H3) (w : World) (hl : ps.length = n) (hk : qs.length = m) (hn : n ≤ 1048576) (hm : m ≤ 1048576) (h64 : ∀ h ∈ ps, In64 h) (k64 : ∀ h ∈ qs, In64 h) (hA : HsAt w a ps) (hB : HsAt w b qs) :
    Calls Tryz.prog 21 #[.agg #[.slice a n ca], .agg #[.slice b m cb]] w fun e w' => e = .returned (.bool (wiB ps qs)) ∧ Below w.heap.size w w' := by
  have HV := Lib.hid (fun V => impl_void a n ca V)
  have HW := Lib.hid (fun V => impl_void b m cb V)
  have HR := Lib.hid (fun V (h : Below w.heap.size w V) => impl_rok a n ca ps V hl hn h64 (hA.below h))
  have HS := Lib.hid (fun V (h : Below w.heap.size w V) => impl_rok b m cb qs V hk hm k64 (hB.below h))
  have HA := Lib.hid hA
  have HB := Lib.hid hB
  have HL := Lib.hid hl
  have HK := Lib.hid hk
  have H64 := Lib.hid h64
  clear hl hk hA hB h64 k64
  refine (callsIn_wide (n := 3)).1 ?_
  refine callsIn_of_wp_marks Tryz.func21 rfl trivial ?_ rfl
  simp only [Tryz.ntmps21, List.size_toArray, List.length_cons, List.length_nil, Nat.reduceAdd, Nat.reduceSub, Array.replicate_succ, Array.replicate_zero, List.push_toArray, List.append_toArray, List.nil_append, List.cons_append]
  have B0 := blk_new w #[.slice a n ca] 40 rfl
  have B1 := blk_new (w.alloc (.cells #[.slice a n ca] 40)) #[.slice b m cb] 40 (b := w.heap.size + 1) (by simp)
  have B2 := blk_new ((w.alloc (.cells #[.slice a n ca] 40)).alloc (.cells #[.slice b m cb] 40)) #[.bool false] 4 (b := w.heap.size + 1 + 1) (by simp)
  have bw := below_bx2 (below_bx2 (below_one w (.cells #[.slice a n ca] 40)) (.cells #[.slice b m cb] 40)) (.cells #[.bool false] 4)
  have e0 := below_bx2 (below_one (w.alloc (.cells #[.slice a n ca] 40)) (.cells #[.slice b m cb] 40)) (.cells #[.bool false] 4)
  have e1 := below_one ((w.alloc (.cells #[.slice a n ca] 40)).alloc (.cells #[.slice b m cb] 40)) (.cells #[.bool false] 4)
  replace B0 := B0.to e0
  replace B1 := B1.to e1
  clear e0 e1
  gi_wp2_with fail
  generalize ((w.alloc (.cells #[.slice a n ca] 40)).alloc (.cells #[.slice b m cb] 40)).alloc (.cells #[.bool false] 4) = V at *
  refine ⟨trivial, (callsIn_wide.2 (HR.out _ bw)).mono ?_⟩
  rintro e w1 ⟨rfl, bl1⟩
  have b1 := below_to bw bl1
  replace B0 := B0.to bl1
  replace B1 := B1.to bl1
  replace B2 := B2.to bl1
  clear bw bl1
  have c1 := B1.cell0 (i := 0) rfl
  have c2 := B2.cell0 (i := 0) rfl
  have f2 := B2.free 0
  cases hr : rokB ps with
  | false =>
    have HN := Lib.hid (wi_no1 (qs := qs) hr)
    clear hr
    gi_wp2
    refine ⟨trivial, ?_⟩
    gi_wp2
    have hc5 := (blk_set B2 (.bool false)).cell0 (i := 0) rfl
    exact ⟨.bool false, by simp [results, Tryz.results21, go_sem, hc5], by rw [HN.out], b1.setCell (p := ⟨w.heap.size + 1 + 1, 0, none⟩) (by simp; omega) _⟩
  | true =>
    have HP := Lib.hid hr
    clear hr
    gi_wp2_with fail
    refine ⟨trivial, (callsIn_wide.2 (HS.out _ b1)).mono ?_⟩
    rintro e w2 ⟨rfl, bl2⟩
    have b2 := below_to b1 bl2
    replace B0 := B0.to bl2
    replace B1 := B1.to bl2
    replace B2 := B2.to bl2
    clear b1 bl2 c1 c2 f2
    have c0 := B0.cell0 (i := 0) rfl
    have c1 := B1.cell0 (i := 0) rfl
    have c2 := B2.cell0 (i := 0) rfl
    have f2 := B2.free 0
    cases hr : rokB qs with
    | false =>
      have HN := Lib.hid (wi_no2 (ps := ps) hr)
      clear hr
      gi_wp2
      have hc5 := (blk_set B2 (.bool false)).cell0 (i := 0) rfl
      exact ⟨.bool false, by simp [results, Tryz.results21, go_sem, hc5], by rw [HN.out], b2.setCell (p := ⟨w.heap.size + 1 + 1, 0, none⟩) (by simp; omega) _⟩
    | true =>
      have HQ := Lib.hid hr
      clear hr
      gi_wp2_with fail
      refine ⟨trivial, (callsIn_wide.2 (HW.out _)).mono ?_⟩
      rintro e w3 ⟨rfl, bl3⟩
      have b3 := below_to b2 bl3
      replace B0 := B0.to bl3
      replace B1 := B1.to bl3
      replace B2 := B2.to bl3
      clear b2 bl3 c0 c1 c2 f2
      have c0 := B0.cell0 (i := 0) rfl
      have c1 := B1.cell0 (i := 0) rfl
      have c2 := B2.cell0 (i := 0) rfl
      have f2 := B2.free 0
      by_cases h0 : m = 0
      · have HN := Lib.hid (wi_void HL.out HK.out HP.out HQ.out h0)
        have hb : ((m : Int) == 0) = true := by subst h0; rfl
        gi_wp2_with fail
        refine ⟨trivial, (callsIn_wide.2 (HV.out _)).mono ?_⟩
        rintro e w4 ⟨rfl, bl4⟩
        have b4 := below_to b3 bl4
        replace B2 := B2.to bl4
        clear c0 c1 c2 f2
        have c2 := B2.cell0 (i := 0) rfl
        have f2 := B2.free 0
        generalize ((n : Int) == 0) = r at *
        gi_wp2
        have hc5 := (blk_set B2 (.bool r)).cell0 (i := 0) rfl
        exact ⟨.bool r, by simp [results, Tryz.results21, go_sem, hc5], by rw [HN.out], b4.setCell (p := ⟨w.heap.size + 1 + 1, 0, none⟩) (by simp; omega) _⟩
      · have hb : ((m : Int) == 0) = false := eq_b (by omega)
        have hne := len_ne HK.out h0
        gi_wp2_with fail
        refine ⟨trivial, (cor_made _ _ _ _ _).mono ?_⟩
        rintro e w' ⟨rfl, rfl⟩
        gi_wp2_with fail
        have bm := below_one w3 (.cells #[.slice a n ca] 40)
        have B3 := blk_new w3 #[.slice a n ca] 40 rfl
        have bw := below_to b3 bm
        have hsz : (w3.alloc (.cells #[.slice a n ca] 40)).heap.size = w3.heap.size + 1 := by simp
        have hz3 : w.heap.size + 2 < w3.heap.size := B2.lt
        replace B0 := B0.to bm
        replace B1 := B1.to bm
        replace B2 := B2.to bm
        clear bm c0 c1 c2 f2 b3
        generalize w3.alloc (.cells #[.slice a n ca] 40) = W0 at *
        generalize w3.heap.size = z3 at *
        refine wpIn_rangeFunc_ownH rfl (by omega) (gf := 119) (lb := #[.pointer (some ⟨z3, 0, none⟩)]) rfl trivial (enters_of Tryz.func119 (by kernel_rfl) rfl)
          (cor_stops (3 - 1) (by omega) z3 n ca a ps w W0 HL.out hn H64.out HA.out bw B3) KpC.t (KpC.b bw.size B3.lt) (Below.refl _ _) (fun _ => rfl)
          (fun pre W => (Blk W (w.heap.size + 1) #[.slice b m cb] 40 ∧ Blk W (w.heap.size + 1 + 1) #[.bool false] 4) ∧ (∀ c ∈ pre, ahB qs c.1.2 = true) ∧ Below w.heap.size w W ∧ z3 + 1 ≤ W.heap.size)
          (fun c pre W => Blk W (w.heap.size + 1 + 1) #[.bool false] 4 ∧ (c = .ret ∧ ∃ c ∈ pre, ahB qs c.1.2 = false) ∧ Below w.heap.size w W)
          (OwnFrom.and (OwnFrom.and (Own.from (blk_own _ _ _) _) (Own.from (blk_own _ _ _) _)) (OwnFrom.and (ownFrom_pure _ _) (OwnFrom.and (ownFrom_below (Nat.le_refl _) bw.size) (ownFrom_size _ _))))
          (fun c => OwnFrom.and (Own.from (blk_own _ _ _) _) (OwnFrom.and (ownFrom_pure _ (fun (pre : List Cnr) => c = .ret ∧ ∃ c ∈ pre, ahB qs c.1.2 = false)) (ownFrom_below (Nat.le_refl _) bw.size)))
          ⟨⟨B1, B2⟩, by simp, bw, by omega⟩
          (fun c a' W => ∃ Bx, z3 + 1 ≤ Bx ∧ Blk W Bx #[.int .i64 c.1.2.a, .int .i64 c.1.2.b, .int .i64 c.1.2.c] 45 ∧ a' = { tmps := #[.agg #[.slice a n ca], .agg #[.slice b m cb], .pointer (some ⟨w.heap.size, 0, none⟩), .pointer (some ⟨w.heap.size + 1, 0, none⟩), .pointer (some ⟨w.heap.size + 1 + 1, 0, none⟩), undef, .pointer (some ⟨Bx, 0, none⟩), .agg #[.slice a n ca], .bool true, .bool false, .bool false, .agg #[.slice b m cb], .bool true, .bool false, .bool false, .agg #[.slice b m cb], .bool false, undef, undef, .agg #[.slice a n ca], .func (.func 119) #[] #[.pointer (some ⟨z3, 0, none⟩)], .int .i64 (c.1.1 : Int), .agg #[.int .i64 c.1.2.a, .int .i64 c.1.2.b, .int .i64 c.1.2.c], undef, undef, undef, undef, undef], defers := [] })
          ?hAx ?assign ?body ?done ?stop
        case hAx =>
          rintro c a' u X Y row ⟨Bx, h1, h2, h3⟩ hg hr
          exact ⟨Bx, h1, Own.from (blk_own (β := Unit) Bx _ _) _ u X Y row h2 hg hr, h3⟩
        case assign =>
          rintro l pre c W K ⟨⟨i1, i2⟩, i3, i4, i5⟩ hK
          gi_wp2
          have bn := below_one W (.cells #[.int .i64 c.1.2.a, .int .i64 c.1.2.b, .int .i64 c.1.2.c] 45)
          exact hK _ _ ((grown_keeps bn).from _) (KpC.of bn i4.size (by omega)) ⟨⟨i1.to bn, i2.to bn⟩, i3, below_to i4 bn, Nat.le_trans i5 bn.size⟩ ⟨W.heap.size, by omega, blk_new W _ _ rfl, rfl⟩
        case body =>
          rintro l pre c a' W hl' _ ⟨⟨i1, i2⟩, i3, i4, i5⟩ ⟨Bx, hBx, iX, rfl⟩ _
          have c1 := i1.cell0 (i := 0) rfl
          have x1 := iX.cell0 (i := 0) rfl
          have x2 := iX.cell0 (i := 1) rfl
          have x3 := iX.cell0 (i := 2) rfl
          have HH := Lib.hid (all_hold b m cb qs c.1.2.a c.1.2.b c.1.2.c W HK.out hm (rok_all HQ.out) c.2.1 (HB.out.below i4))
          have hd : 1 ≤ 3 - 1 - 1 := by omega
          gi_wp2_with fail
          refine ⟨trivial, (CallsIn.inRound l (callsIn_wide.2 HH.out)).mono ?_⟩
          rintro e w5 ⟨rfl, bl5⟩
          have j2 := i2.to bl5
          have k2 := j2.cell0 (i := 0) rfl
          have f2 := j2.free 0
          have HI := Lib.hid (show KeepsFrom W0.heap.size W w5 ∧ KpC w.heap.size z3 W w5 from ⟨(grown_keeps bl5).from _, KpC.of bl5 i4.size (by omega)⟩)
          have HJ := Lib.hid (show Blk w5 (w.heap.size + 1) #[.slice b m cb] 40 ∧ Below w.heap.size w w5 ∧ z3 + 1 ≤ w5.heap.size from ⟨i1.to bl5, below_to i4 bl5, Nat.le_trans i5 bl5.size⟩)
          cases hr : ahB qs ⟨c.1.2.a, c.1.2.b, c.1.2.c⟩ with
          | false =>
            have HX := Lib.hid hr
            clear hr
            gi_wp2
            exact ⟨HI.out.1.trans ((KeepsOthers.setCell _ _ _).from _), blk_set j2 _, ⟨rfl, c, by simp, HX.out⟩, HJ.out.2.1.setCell (p := ⟨w.heap.size + 1 + 1, 0, none⟩) (by simp; omega) _⟩
          | true =>
            have HX := Lib.hid hr
            clear hr
            gi_wp2
            exact ⟨HI.out.1, HI.out.2, ⟨HJ.out.1, j2⟩, fun c' hc' => (List.mem_append.1 hc').elim (i3 c') (fun e => by simp at e; subst e; exact HX.out), HJ.out.2⟩
        case done =>
          rintro D ys W hD rfl ⟨⟨i1, i2⟩, i3, i4, i5⟩ hK
          have k2 := i2.cell0 (i := 0) rfl
          have f2 := i2.free 0
          have HN := Lib.hid (wi_yes HP.out HQ.out hne i3)
          gi_wp2
          have hK' := (KeepsOthers.setCell W ⟨w.heap.size + 1 + 1, 0, none⟩ (.bool true)).same D _ hK rfl
          refine ⟨by simp, .inl ⟨_, _, rfl, run_takeDeferred hK', ?_⟩⟩
          have hc5 := cell_kept ((blk_set i2 (.bool true)).cell0 (i := 0) rfl) (grownBy_putObj' _ D (.deferred none)) (fun r e => by cases e; exact ⟨_, hK', rfl⟩)
          refine ⟨.bool true, ?_, by rw [HN.out], behind (i4.setCell (p := ⟨w.heap.size + 1 + 1, 0, none⟩) (by simp; omega) _) hK' hD bw.size⟩
          simp [results, Tryz.results21, go_sem, hc5]
        case stop =>
          rintro D c pre W hD ⟨k, hk, rfl⟩ ⟨i2, ⟨rfl, c', hc', he⟩, i4⟩ hK
          have HN := Lib.hid (wi_out hk hc' he)
          gi_wp2
          refine ⟨by simp, .inl ⟨_, _, rfl, run_takeDeferred hK, ?_⟩⟩
          have hc5 := cell_kept (i2.cell0 (i := 0) rfl) (grownBy_putObj' _ D (.deferred none)) (fun r e => by cases e; exact ⟨_, hK, rfl⟩)
          refine ⟨.bool false, ?_, by rw [HN.out], behind i4 hK hD bw.size⟩
          simp [results, Tryz.results21, go_sem, hc5]

end Go.Proofs.YtibkmhmeoelpdaaGreat
