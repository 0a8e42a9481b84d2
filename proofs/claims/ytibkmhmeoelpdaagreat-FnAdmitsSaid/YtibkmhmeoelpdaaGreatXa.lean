/- What IsHeld answers, and the program's IsHeld over the translation. -/
import Derived.Test.YtibkmhmeoelpdaaGreatKm
import Derived.Test.YtibkmhmeoelpdaaGreatKf
import Derived.Test.YtibkmhmeoelpdaaGreatWk
namespace Go.Proofs.YtibkmhmeoelpdaaGreat
open Go.RowKit Go.Shelf
open Geo (H3)

attribute [local go_sem] Oper.semAt_some

theorem okS64 {x y d : Int} (h : okS x y d = true) : In64 ⟨x, y, d⟩ := by
  by_cases c : d < 1 ∨ 5000000000 < d ∨ x < -(1000 * d) ∨ 1000 * d < x ∨ y < -(1000 * d) ∨ 1000 * d < y
  · rw [okS_no c] at h; cases h
  · refine ⟨⟨?_, ?_⟩, ⟨?_, ?_⟩, ⟨?_, ?_⟩⟩ <;> simp only <;> omega
/-- the next state's numbers, not yet reduced -/
def heX (zs : List Int) (q bx sX sY sD uN uD : Int) (p : H3) : Int := nsX zs 0 1 q bx sX sY sD uN uD p.a p.c
def heY (zs : List Int) (q cy sX sY sD uN uD : Int) (p : H3) : Int := nsX zs 2 3 q cy sX sY sD uN uD p.b p.c
def heD (q sD uD : Int) (p : H3) : Int := q * sD * uD * p.c
/-- whether there is a next state -/
def heG (zs : List Int) (q bx cy lo hi : Int) (ps qs : List H3) (sX sY sD uN uD : Int) (p : H3) : Bool := nsC zs q bx cy lo hi ps qs sX sY sD uN uD p.a p.b p.c && hasS (heX zs q bx sX sY sD uN uD p) (heY zs q cy sX sY sD uN uD p) (heD q sD uD p)
/-- the next state -/
def heS (zs : List Int) (q bx cy lo hi : Int) (ps qs : List H3) (sX sY sD uN uD : Int) (p : H3) : H3 := if heG zs q bx cy lo hi ps qs sX sY sD uN uD p = true then ⟨(heX zs q bx sX sY sD uN uD p).tdiv (gS (heX zs q bx sX sY sD uN uD p) (heY zs q cy sX sY sD uN uD p) (heD q sD uD p)), (heY zs q cy sX sY sD uN uD p).tdiv (gS (heX zs q bx sX sY sD uN uD p) (heY zs q cy sX sY sD uN uD p) (heD q sD uD p)), (heD q sD uD p).tdiv (gS (heX zs q bx sX sY sD uN uD p) (heY zs q cy sX sY sD uN uD p) (heD q sD uD p))⟩ else ⟨0, 0, 0⟩
theorem ns_val (zs : List Int) (q bx cy lo hi : Int) (ps qs : List H3) (sX sY sD uN uD : Int) (p : H3) : nsV zs q bx cy lo hi ps qs sX sY sD uN uD p.a p.b p.c = .tuple #[.agg #[.int .i64 (heS zs q bx cy lo hi ps qs sX sY sD uN uD p).a, .int .i64 (heS zs q bx cy lo hi ps qs sX sY sD uN uD p).b, .int .i64 (heS zs q bx cy lo hi ps qs sX sY sD uN uD p).c], .bool (heG zs q bx cy lo hi ps qs sX sY sD uN uD p)] := by
  unfold nsV heS heG
  cases hc : nsC zs q bx cy lo hi ps qs sX sY sD uN uD p.a p.b p.c with
  | false => simp [zeroS]
  | true =>
    cases hh : hasS (heX zs q bx sX sY sD uN uD p) (heY zs q cy sX sY sD uN uD p) (heD q sD uD p) with
    | false =>
      have e : nsA zs q bx cy sX sY sD uN uD p.a p.b p.c = zeroS := ansS_no hh
      simp [e, zeroS]
    | true =>
      have e : nsA zs q bx cy sX sY sD uN uD p.a p.b p.c = spotS _ _ _ := ansS_yes hh
      simp only [if_true, Bool.and_true]
      rw [e]
      rfl
theorem heS_ok {zs : List Int} {q bx cy lo hi : Int} {ps qs : List H3} {sX sY sD uN uD : Int} {p : H3} (h : heG zs q bx cy lo hi ps qs sX sY sD uN uD p = true) : okS (heS zs q bx cy lo hi ps qs sX sY sD uN uD p).a (heS zs q bx cy lo hi ps qs sX sY sD uN uD p).b (heS zs q bx cy lo hi ps qs sX sY sD uN uD p).c = true := by
  unfold heS
  rw [if_pos h]
  unfold heG at h
  rw [Bool.and_eq_true] at h
  exact (hasS_pos h.2).2
/-- a corner of the noise leads into the region -/
def heB (zs : List Int) (q bx cy lo hi : Int) (ps qs : List H3) (sX sY sD uN uD : Int) (rs : List H3) (p : H3) : Bool := heG zs q bx cy lo hi ps qs sX sY sD uN uD p && hasB rs (heS zs q bx cy lo hi ps qs sX sY sD uN uD p).a (heS zs q bx cy lo hi ps qs sX sY sD uN uD p).b (heS zs q bx cy lo hi ps qs sX sY sD uN uD p).c
/-- IsHeld -/
noncomputable def ihB (zs : List Int) (q bx cy lo hi : Int) (ps qs : List H3) (sX sY sD uN uD : Int) (rs : List H3) : Bool := isiB zs q bx cy lo hi ps qs uN uD && (corL ps ps.length).all (heB zs q bx cy lo hi ps qs sX sY sD uN uD rs)
theorem ih_no {zs : List Int} {q bx cy lo hi : Int} {ps qs : List H3} {sX sY sD uN uD : Int} {rs : List H3} (h : isiB zs q bx cy lo hi ps qs uN uD = false) : ihB zs q bx cy lo hi ps qs sX sY sD uN uD rs = false := by unfold ihB; rw [h]; rfl
theorem isi_noise {zs : List Int} {q bx cy lo hi : Int} {ps qs : List H3} {uN uD : Int} (h : isiB zs q bx cy lo hi ps qs uN uD = true) : rokB ps = true ∧ ps ≠ [] ∧ rmB zs q bx cy lo hi ps qs = true := by
  unfold isiB at h
  simp only [Bool.and_eq_true] at h
  have hr := h.1.1
  have h0 := hr
  unfold rmB at h0
  simp only [Bool.and_eq_true] at h0
  have hs := h0.1.2
  unfold solB at hs
  simp only [Bool.and_eq_true, Bool.not_eq_true', decide_eq_false_iff_not] at hs
  exact ⟨hs.2, hs.1, hr⟩
theorem ih_yes {zs : List Int} {q bx cy lo hi : Int} {ps qs : List H3} {sX sY sD uN uD : Int} {rs : List H3} (h : isiB zs q bx cy lo hi ps qs uN uD = true) (c : ∀ x ∈ cnrL ps (cntC ps), heB zs q bx cy lo hi ps qs sX sY sD uN uD rs x.1.2 = true) : ihB zs q bx cy lo hi ps qs sX sY sD uN uD rs = true := by
  obtain ⟨hp, ne, _⟩ := isi_noise h
  unfold ihB
  rw [h, Bool.true_and, List.all_eq_true]
  intro y hy
  unfold corL at hy
  simp only [List.mem_map, List.mem_range] at hy
  obtain ⟨i, hj, rfl⟩ := hy
  have hc : i < cntC ps := by unfold cntC; rw [if_pos hp]; exact hj
  have := c (cnrF ps i) (by unfold cnrL; simp only [List.mem_map, List.mem_range]; exact ⟨i, hc, rfl⟩)
  rwa [(cnrF_pt hc).1] at this
theorem ih_out {zs : List Int} {q bx cy lo hi : Int} {ps qs : List H3} {sX sY sD uN uD : Int} {rs : List H3} {m : Nat} (hm : m ≤ cntC ps) {x : Cnr} (hx : x ∈ cnrL ps m) (c : heB zs q bx cy lo hi ps qs sX sY sD uN uD rs x.1.2 = false) : ihB zs q bx cy lo hi ps qs sX sY sD uN uD rs = false := by
  unfold cnrL at hx
  simp only [List.mem_map, List.mem_range] at hx
  obtain ⟨i, hj, rfl⟩ := hx
  have hj' : i < cntC ps := by omega
  obtain ⟨e, r, l⟩ := cnrF_pt hj'
  rw [e] at c
  unfold ihB
  have : (corL ps ps.length).all (heB zs q bx cy lo hi ps qs sX sY sD uN uD rs) = false := by
    rw [List.all_eq_false]
    exact ⟨crA ps i, by unfold corL crA; simp only [List.mem_map, List.mem_range]; exact ⟨i, l, rfl⟩, by simp [c]⟩
  rw [this, Bool.and_false]
set_option maxRecDepth 100000 in
set_option maxHeartbeats 6400000 in
theorem impl_ih (am : Option Addr) (nm cm : Nat) (zs : List Int) (q bx cy lo hi : Int) (an : Option Addr) (nn cn : Nat) (ps : List H3) (al : Option Addr) (nl cl : Nat) (qs : List H3) (sX sY sD uN uD : Int) (a : Option Addr) (n ca : Nat) (rs : List H3) (w : World) (hA : RAt w am nm zs an nn ps al nl qs) (h64 : R64 q bx cy lo hi ps qs) (hle : nm + nn + nl ≤ 1048576) (hs : In64 ⟨sX, sY, sD⟩) (hu : (-9223372036854775808 ≤ uN ∧ uN ≤ 9223372036854775807) ∧ -9223372036854775808 ≤ uD ∧ uD ≤ 9223372036854775807) (hl : rs.length = n) (hn : n ≤ 1048576) (hr64 : ∀ h ∈ rs, In64 h) (hG : HsAt w a rs) :
    Calls Tryz.prog 26 #[.agg #[.slice am nm cm, .int .i64 q, .int .i64 bx, .int .i64 cy, .int .i64 lo, .int .i64 hi, .slice an nn cn, .slice al nl cl], .agg #[.int .i64 sX, .int .i64 sY, .int .i64 sD], .agg #[.int .i64 uN, .int .i64 uD], .agg #[.slice a n ca]] w fun e w' => e = .returned (.bool (ihB zs q bx cy lo hi ps qs sX sY sD uN uD rs)) ∧ Below w.heap.size w w' := by
  have HI := Lib.hid (fun V (h : Below w.heap.size w V) => impl_isi am nm cm zs q bx cy lo hi an nn cn ps al nl cl qs uN uD V (hA.below h) h64 hu hle)
  have HNS := Lib.hid (fun V (x : H3) (hx : okS x.a x.b x.c = true) (h : Below w.heap.size w V) => impl_ns am nm cm zs q bx cy lo hi an nn cn ps al nl cl qs sX sY sD uN uD x.a x.b x.c V (hA.below h) h64 hs hu (okS64 hx) hle)
  have HH := Lib.hid (fun V (x : H3) (hx : okS x.a x.b x.c = true) (h : Below w.heap.size w V) => impl_has a n ca rs x.a x.b x.c V hl hn hr64 (okS64 hx) (hG.below h))
  have HLN := Lib.hid hA.ln
  have HHN := Lib.hid hA.hn
  have H64 := Lib.hid h64.ps
  have HCT := Lib.hid (fun (z3 : Nat) (W0 : World) (bw : Below w.heap.size w W0) (B3 : Blk W0 z3 #[.slice an nn cn] 40) => cor_stops (3 - 1) (by omega) z3 nn cn an ps w W0 hA.ln (by omega) h64.ps hA.hn bw B3)
  clear hA h64 hs hu hl hn hr64 hG
  refine (callsIn_wide (n := 3)).1 ?_
  refine callsIn_of_wp_marks Tryz.func26 rfl trivial ?_ rfl
  simp only [Tryz.ntmps26, List.size_toArray, List.length_cons, List.length_nil, Nat.reduceAdd, Nat.reduceSub, Array.replicate_succ, Array.replicate_zero, List.push_toArray, List.append_toArray, List.nil_append, List.cons_append]
  have bV := below_bx2 (below_bx2 (below_bx2 (below_bx2 (below_one w (.cells #[.slice am nm cm, .int .i64 q, .int .i64 bx, .int .i64 cy, .int .i64 lo, .int .i64 hi, .slice an nn cn, .slice al nl cl] 42)) (.cells #[.int .i64 sX, .int .i64 sY, .int .i64 sD] 45)) (.cells #[.int .i64 uN, .int .i64 uD] 33)) (.cells #[.slice a n ca] 40)) (.cells #[.bool false] 4)
  have K0 := ((((blk_new w #[.slice am nm cm, .int .i64 q, .int .i64 bx, .int .i64 cy, .int .i64 lo, .int .i64 hi, .slice an nn cn, .slice al nl cl] 42 (b := w.heap.size) (by simp)).to (below_one _ (.cells #[.int .i64 sX, .int .i64 sY, .int .i64 sD] 45))).to (below_one _ (.cells #[.int .i64 uN, .int .i64 uD] 33))).to (below_one _ (.cells #[.slice a n ca] 40))).to (below_one _ (.cells #[.bool false] 4))
  have K1 := (((blk_new (w.alloc (.cells #[.slice am nm cm, .int .i64 q, .int .i64 bx, .int .i64 cy, .int .i64 lo, .int .i64 hi, .slice an nn cn, .slice al nl cl] 42)) #[.int .i64 sX, .int .i64 sY, .int .i64 sD] 45 (b := w.heap.size + 1) (by simp)).to (below_one _ (.cells #[.int .i64 uN, .int .i64 uD] 33))).to (below_one _ (.cells #[.slice a n ca] 40))).to (below_one _ (.cells #[.bool false] 4))
  have K2 := ((blk_new ((w.alloc (.cells #[.slice am nm cm, .int .i64 q, .int .i64 bx, .int .i64 cy, .int .i64 lo, .int .i64 hi, .slice an nn cn, .slice al nl cl] 42)).alloc (.cells #[.int .i64 sX, .int .i64 sY, .int .i64 sD] 45)) #[.int .i64 uN, .int .i64 uD] 33 (b := w.heap.size + 1 + 1) (by simp)).to (below_one _ (.cells #[.slice a n ca] 40))).to (below_one _ (.cells #[.bool false] 4))
  have K3 := (blk_new (((w.alloc (.cells #[.slice am nm cm, .int .i64 q, .int .i64 bx, .int .i64 cy, .int .i64 lo, .int .i64 hi, .slice an nn cn, .slice al nl cl] 42)).alloc (.cells #[.int .i64 sX, .int .i64 sY, .int .i64 sD] 45)).alloc (.cells #[.int .i64 uN, .int .i64 uD] 33)) #[.slice a n ca] 40 (b := w.heap.size + 1 + 1 + 1) (by simp)).to (below_one _ (.cells #[.bool false] 4))
  have K4 := blk_new ((((w.alloc (.cells #[.slice am nm cm, .int .i64 q, .int .i64 bx, .int .i64 cy, .int .i64 lo, .int .i64 hi, .slice an nn cn, .slice al nl cl] 42)).alloc (.cells #[.int .i64 sX, .int .i64 sY, .int .i64 sD] 45)).alloc (.cells #[.int .i64 uN, .int .i64 uD] 33)).alloc (.cells #[.slice a n ca] 40)) #[.bool false] 4 (b := w.heap.size + 1 + 1 + 1 + 1) (by simp)
  have c0_0 := K0.c8_0
  have c0_1 := K0.c8_1
  have c0_2 := K0.c8_2
  have c0_3 := K0.c8_3
  have c0_4 := K0.c8_4
  have c0_5 := K0.c8_5
  have c0_6 := K0.c8_6
  have c0_7 := K0.c8_7
  have c2_0 := K2.cell0 (i := 0) (v := .int .i64 uN) rfl
  have c2_1 := K2.cell0 (i := 1) (v := .int .i64 uD) rfl
  gi_wp2_with fail
  clear c0_0 c0_1 c0_2 c0_3 c0_4 c0_5 c0_6 c0_7 c2_0 c2_1
  generalize (((((w.alloc (.cells #[.slice am nm cm, .int .i64 q, .int .i64 bx, .int .i64 cy, .int .i64 lo, .int .i64 hi, .slice an nn cn, .slice al nl cl] 42)).alloc (.cells #[.int .i64 sX, .int .i64 sY, .int .i64 sD] 45)).alloc (.cells #[.int .i64 uN, .int .i64 uD] 33)).alloc (.cells #[.slice a n ca] 40)).alloc (.cells #[.bool false] 4)) = V at *
  refine ⟨trivial, (callsIn_wide.2 (HI.out _ bV)).mono ?_⟩
  rintro e w1 ⟨rfl, bl1⟩
  have b1 := below_to bV bl1
  have L0 := K0.to bl1
  have L1 := K1.to bl1
  have L2 := K2.to bl1
  have L3 := K3.to bl1
  have L4 := K4.to bl1
  clear bV bl1 K0 K1 K2 K3 K4 HI
  have c4 := L4.cell0 (i := 0) (v := .bool false) rfl
  have f4 := L4.free 0
  cases hii : isiB zs q bx cy lo hi ps qs uN uD with
  | false =>
    have HN := Lib.hid (ih_no (sX := sX) (sY := sY) (sD := sD) (rs := rs) hii)
    clear hii
    gi_wp2
    have hc5 := (blk_set L4 (.bool false)).cell0 (i := 0) rfl
    exact ⟨.bool false, by simp [results, Tryz.results26, go_sem, hc5], by rw [HN.out], b1.setCell (p := ⟨w.heap.size + 1 + 1 + 1 + 1, 0, none⟩) (by simp; omega) _⟩
  | true =>
    have HIS := Lib.hid hii
    clear hii
    have k6 := L0.c8_6
    gi_wp2_with fail
    clear k6
    refine ⟨trivial, (cor_made _ _ _ _ _).mono ?_⟩
    rintro e w' ⟨rfl, rfl⟩
    gi_wp2_with fail
    have bm := below_one w1 (.cells #[.slice an nn cn] 40)
    have M5 := blk_new w1 #[.slice an nn cn] 40 rfl
    have bw := below_to b1 bm
    have hsz : (w1.alloc (.cells #[.slice an nn cn] 40)).heap.size = w1.heap.size + 1 := by simp
    have hz3 : w.heap.size + 1 + 1 + 1 + 1 < w1.heap.size := L4.lt
    have M0 := L0.to bm
    have M1 := L1.to bm
    have M2 := L2.to bm
    have M3 := L3.to bm
    have M4 := L4.to bm
    clear bm c4 f4 b1 L0 L1 L2 L3 L4
    generalize w1.alloc (.cells #[.slice an nn cn] 40) = W0 at *
    generalize w1.heap.size = z3 at *
    refine wpIn_rangeFunc_ownH rfl (by omega) (gf := 119) (lb := #[.pointer (some ⟨z3, 0, none⟩)]) rfl trivial (enters_of Tryz.func119 (by kernel_rfl) rfl)
      (HCT.out z3 W0 bw M5) KpC.t (KpC.b bw.size M5.lt) (Below.refl _ _) (fun _ => rfl)
      (fun pre W => (Blk W (w.heap.size) #[.slice am nm cm, .int .i64 q, .int .i64 bx, .int .i64 cy, .int .i64 lo, .int .i64 hi, .slice an nn cn, .slice al nl cl] 42 ∧ Blk W (w.heap.size + 1) #[.int .i64 sX, .int .i64 sY, .int .i64 sD] 45 ∧ Blk W (w.heap.size + 1 + 1) #[.int .i64 uN, .int .i64 uD] 33 ∧ Blk W (w.heap.size + 1 + 1 + 1) #[.slice a n ca] 40 ∧ Blk W (w.heap.size + 1 + 1 + 1 + 1) #[.bool false] 4) ∧ (∀ c ∈ pre, heB zs q bx cy lo hi ps qs sX sY sD uN uD rs c.1.2 = true) ∧ Below w.heap.size w W ∧ z3 + 1 ≤ W.heap.size)
      (fun c pre W => Blk W (w.heap.size + 1 + 1 + 1 + 1) #[.bool false] 4 ∧ (c = .ret ∧ ∃ c ∈ pre, heB zs q bx cy lo hi ps qs sX sY sD uN uD rs c.1.2 = false) ∧ Below w.heap.size w W)
      (OwnFrom.and (OwnFrom.and (Own.from (blk_own _ _ _) _) (OwnFrom.and (Own.from (blk_own _ _ _) _) (OwnFrom.and (Own.from (blk_own _ _ _) _) (OwnFrom.and (Own.from (blk_own _ _ _) _) (Own.from (blk_own _ _ _) _))))) (OwnFrom.and (ownFrom_pure _ _) (OwnFrom.and (ownFrom_below (Nat.le_refl _) bw.size) (ownFrom_size _ _))))
      (fun c => OwnFrom.and (Own.from (blk_own _ _ _) _) (OwnFrom.and (ownFrom_pure _ (fun (pre : List Cnr) => c = .ret ∧ ∃ c ∈ pre, heB zs q bx cy lo hi ps qs sX sY sD uN uD rs c.1.2 = false)) (ownFrom_below (Nat.le_refl _) bw.size)))
      ⟨⟨M0, M1, M2, M3, M4⟩, by simp, bw, by omega⟩
      (fun c a' W => ∃ Bx, z3 + 1 ≤ Bx ∧ Blk W Bx #[.int .i64 c.1.2.a, .int .i64 c.1.2.b, .int .i64 c.1.2.c] 45 ∧ a' = { tmps := #[.agg #[.slice am nm cm, .int .i64 q, .int .i64 bx, .int .i64 cy, .int .i64 lo, .int .i64 hi, .slice an nn cn, .slice al nl cl], .agg #[.int .i64 sX, .int .i64 sY, .int .i64 sD], .agg #[.int .i64 uN, .int .i64 uD], .agg #[.slice a n ca], .pointer (some ⟨w.heap.size, 0, none⟩), .pointer (some ⟨w.heap.size + 1, 0, none⟩), .pointer (some ⟨w.heap.size + 1 + 1, 0, none⟩), .pointer (some ⟨w.heap.size + 1 + 1 + 1, 0, none⟩), .pointer (some ⟨w.heap.size + 1 + 1 + 1 + 1, 0, none⟩), undef, .pointer (some ⟨Bx, 0, none⟩), undef, undef, .agg #[.slice am nm cm, .int .i64 q, .int .i64 bx, .int .i64 cy, .int .i64 lo, .int .i64 hi, .slice an nn cn, .slice al nl cl], .agg #[.int .i64 uN, .int .i64 uD], .bool true, .bool false, .pointer (some ⟨w.heap.size, 6, none⟩), .agg #[.slice an nn cn], .func (.func 119) #[] #[.pointer (some ⟨z3, 0, none⟩)], .int .i64 (c.1.1 : Int), .agg #[.int .i64 c.1.2.a, .int .i64 c.1.2.b, .int .i64 c.1.2.c], undef, undef, undef, undef, undef, undef, undef, undef, undef, undef, undef, undef, undef, undef, undef, undef], defers := [] })
      ?hAx ?assign ?body ?done ?stop
    case hAx =>
      rintro c a' u X Y row ⟨Bx, h1, h2, h3⟩ hg hr
      exact ⟨Bx, h1, Own.from (blk_own (β := Unit) Bx _ _) _ u X Y row h2 hg hr, h3⟩
    case assign =>
      rintro l pre c W K ⟨⟨i0, i1, i2, i3, i4⟩, j3, j4, j5⟩ hK
      gi_wp2
      have bn := below_one W (.cells #[.int .i64 c.1.2.a, .int .i64 c.1.2.b, .int .i64 c.1.2.c] 45)
      exact hK _ _ ((grown_keeps bn).from _) (KpC.of bn j4.size (by omega)) ⟨⟨i0.to bn, i1.to bn, i2.to bn, i3.to bn, i4.to bn⟩, j3, below_to j4 bn, Nat.le_trans j5 bn.size⟩ ⟨W.heap.size, by omega, blk_new W _ _ rfl, rfl⟩
    case body =>
      rintro l pre c a' W hl' _ ⟨⟨i0, i1, i2, i3, i4⟩, j3, j4, j5⟩ ⟨Bx, hBx, iX, rfl⟩ _
      have k0 := i0.c8_0
      have k1 := i0.c8_1
      have k2 := i0.c8_2
      have k3 := i0.c8_3
      have k4 := i0.c8_4
      have k5 := i0.c8_5
      have k6 := i0.c8_6
      have k7 := i0.c8_7
      have s0 := i1.cell0 (i := 0) rfl
      have s1 := i1.cell0 (i := 1) rfl
      have s2 := i1.cell0 (i := 2) rfl
      have u0 := i2.cell0 (i := 0) rfl
      have u1 := i2.cell0 (i := 1) rfl
      have x0 := iX.cell0 (i := 0) rfl
      have x1 := iX.cell0 (i := 1) rfl
      have x2 := iX.cell0 (i := 2) rfl
      have hd : 1 ≤ 3 - 1 - 1 := by omega
      have HN1 := HNS.out W c.1.2 c.2.1 j4
      rw [ns_val zs q bx cy lo hi ps qs sX sY sD uN uD c.1.2] at HN1
      have HN2 := Lib.hid HN1
      clear HN1
      gi_wp2_with fail
      clear k0 k1 k2 k3 k4 k5 k6 k7 s0 s1 s2 u0 u1 x0 x1 x2
      refine ⟨trivial, (CallsIn.inRound l (callsIn_wide.2 HN2.out)).mono ?_⟩
      rintro e w5 ⟨rfl, bl5⟩
      have bn := below_one w5 (.cells #[.int .i64 (heS zs q bx cy lo hi ps qs sX sY sD uN uD c.1.2).a, .int .i64 (heS zs q bx cy lo hi ps qs sX sY sD uN uD c.1.2).b, .int .i64 (heS zs q bx cy lo hi ps qs sX sY sD uN uD c.1.2).c] 45)
      have bk := below_to bl5 bn
      have N5 := blk_new w5 #[.int .i64 (heS zs q bx cy lo hi ps qs sX sY sD uN uD c.1.2).a, .int .i64 (heS zs q bx cy lo hi ps qs sX sY sD uN uD c.1.2).b, .int .i64 (heS zs q bx cy lo hi ps qs sX sY sD uN uD c.1.2).c] 45 rfl
      have q0 := i0.to bk
      have q1 := i1.to bk
      have q2 := i2.to bk
      have q3 := i3.to bk
      have q4 := i4.to bk
      have k4 := q4.cell0 (i := 0) rfl
      have f4 := q4.free 0
      have HI := Lib.hid (show KeepsFrom W0.heap.size W (w5.alloc (.cells #[.int .i64 (heS zs q bx cy lo hi ps qs sX sY sD uN uD c.1.2).a, .int .i64 (heS zs q bx cy lo hi ps qs sX sY sD uN uD c.1.2).b, .int .i64 (heS zs q bx cy lo hi ps qs sX sY sD uN uD c.1.2).c] 45)) ∧ KpC w.heap.size z3 W (w5.alloc (.cells #[.int .i64 (heS zs q bx cy lo hi ps qs sX sY sD uN uD c.1.2).a, .int .i64 (heS zs q bx cy lo hi ps qs sX sY sD uN uD c.1.2).b, .int .i64 (heS zs q bx cy lo hi ps qs sX sY sD uN uD c.1.2).c] 45)) from ⟨(grown_keeps bk).from _, KpC.of bk j4.size (by omega)⟩)
      have HJ := Lib.hid (show Below w.heap.size w (w5.alloc (.cells #[.int .i64 (heS zs q bx cy lo hi ps qs sX sY sD uN uD c.1.2).a, .int .i64 (heS zs q bx cy lo hi ps qs sX sY sD uN uD c.1.2).b, .int .i64 (heS zs q bx cy lo hi ps qs sX sY sD uN uD c.1.2).c] 45)) ∧ z3 + 1 ≤ (w5.alloc (.cells #[.int .i64 (heS zs q bx cy lo hi ps qs sX sY sD uN uD c.1.2).a, .int .i64 (heS zs q bx cy lo hi ps qs sX sY sD uN uD c.1.2).b, .int .i64 (heS zs q bx cy lo hi ps qs sX sY sD uN uD c.1.2).c] 45)).heap.size from ⟨below_to j4 bk, Nat.le_trans j5 bk.size⟩)
      cases hg : heG zs q bx cy lo hi ps qs sX sY sD uN uD c.1.2 with
      | false =>
        have HX := Lib.hid (show heB zs q bx cy lo hi ps qs sX sY sD uN uD rs c.1.2 = false by unfold heB; rw [hg]; rfl)
        clear hg bl5 bn bk
        gi_wp2
        refine ⟨trivial, ?_⟩
        gi_wp2
        exact ⟨HI.out.1.trans ((KeepsOthers.setCell _ _ _).from _), blk_set q4 _, ⟨rfl, c, by simp, HX.out⟩, HJ.out.1.setCell (p := ⟨w.heap.size + 1 + 1 + 1 + 1, 0, none⟩) (by simp; omega) _⟩
      | true =>
        have HOK := Lib.hid (heS_ok hg)
        have HEQ := Lib.hid (show heB zs q bx cy lo hi ps qs sX sY sD uN uD rs c.1.2 = hasB rs (heS zs q bx cy lo hi ps qs sX sY sD uN uD c.1.2).a (heS zs q bx cy lo hi ps qs sX sY sD uN uD c.1.2).b (heS zs q bx cy lo hi ps qs sX sY sD uN uD c.1.2).c by unfold heB; rw [hg, Bool.true_and])
        clear hg bl5 bn bk
        have r3 := q3.cell0 (i := 0) (v := .slice a n ca) rfl
        have y0 := N5.cell0 (i := 0) rfl
        have y1 := N5.cell0 (i := 1) rfl
        have y2 := N5.cell0 (i := 2) rfl
        generalize heS zs q bx cy lo hi ps qs sX sY sD uN uD c.1.2 = S at *
        have HH2 := Lib.hid (HH.out _ S HOK.out HJ.out.1)
        gi_wp2_with fail
        clear r3 y0 y1 y2
        refine ⟨trivial, (CallsIn.inRound l (callsIn_wide.2 HH2.out)).mono ?_⟩
        rintro e w6 ⟨rfl, bl6⟩
        have p4 := q4.to bl6
        have k4' := p4.cell0 (i := 0) rfl
        have f4' := p4.free 0
        have HI2 := Lib.hid (show KeepsFrom W0.heap.size W w6 ∧ KpC w.heap.size z3 W w6 from ⟨HI.out.1.trans ((grown_keeps bl6).from _), KpC.t HI.out.2 (KpC.of bl6 HJ.out.1.size (by have := HJ.out.2; omega))⟩)
        have HJ2 := Lib.hid (show (Blk w6 w.heap.size #[.slice am nm cm, .int .i64 q, .int .i64 bx, .int .i64 cy, .int .i64 lo, .int .i64 hi, .slice an nn cn, .slice al nl cl] 42 ∧ Blk w6 (w.heap.size + 1) #[.int .i64 sX, .int .i64 sY, .int .i64 sD] 45 ∧ Blk w6 (w.heap.size + 1 + 1) #[.int .i64 uN, .int .i64 uD] 33 ∧ Blk w6 (w.heap.size + 1 + 1 + 1) #[.slice a n ca] 40) ∧ Below w.heap.size w w6 ∧ z3 + 1 ≤ w6.heap.size from ⟨⟨q0.to bl6, q1.to bl6, q2.to bl6, q3.to bl6⟩, below_to HJ.out.1 bl6, Nat.le_trans HJ.out.2 bl6.size⟩)
        clear k4 f4 HI HJ q0 q1 q2 q3 q4 N5 bl6
        cases hr : hasB rs S.a S.b S.c with
        | false =>
          have HX := Lib.hid (HEQ.out.trans hr)
          clear hr
          gi_wp2
          exact ⟨HI2.out.1.trans ((KeepsOthers.setCell _ _ _).from _), blk_set p4 _, ⟨rfl, c, by simp, HX.out⟩, HJ2.out.2.1.setCell (p := ⟨w.heap.size + 1 + 1 + 1 + 1, 0, none⟩) (by simp; omega) _⟩
        | true =>
          have HX := Lib.hid (HEQ.out.trans hr)
          clear hr
          gi_wp2
          exact ⟨HI2.out.1, HI2.out.2, ⟨HJ2.out.1.1, HJ2.out.1.2.1, HJ2.out.1.2.2.1, HJ2.out.1.2.2.2, p4⟩, fun c' hc' => (List.mem_append.1 hc').elim (j3 c') (fun e => by simp at e; subst e; exact HX.out), HJ2.out.2⟩
    case done =>
      rintro D ys W hD rfl ⟨⟨_, _, _, _, i4⟩, j3, j4, j5⟩ hK
      have k4 := i4.cell0 (i := 0) rfl
      have f4 := i4.free 0
      have HN := Lib.hid (ih_yes HIS.out j3)
      gi_wp2
      have hK' := (KeepsOthers.setCell W ⟨w.heap.size + 1 + 1 + 1 + 1, 0, none⟩ (.bool true)).same D _ hK rfl
      refine ⟨by simp, .inl ⟨_, _, rfl, run_takeDeferred hK', ?_⟩⟩
      have hc5 := cell_kept ((blk_set i4 (.bool true)).cell0 (i := 0) rfl) (grownBy_putObj' _ D (.deferred none)) (fun r e => by cases e; exact ⟨_, hK', rfl⟩)
      refine ⟨.bool true, ?_, by rw [HN.out], behind (j4.setCell (p := ⟨w.heap.size + 1 + 1 + 1 + 1, 0, none⟩) (by simp; omega) _) hK' hD bw.size⟩
      simp [results, Tryz.results26, go_sem, hc5]
    case stop =>
      rintro D c pre W hD ⟨k, hk, rfl⟩ ⟨i4, ⟨rfl, c', hc', he⟩, j4⟩ hK
      have HN := Lib.hid (ih_out hk hc' he)
      gi_wp2
      refine ⟨by simp, .inl ⟨_, _, rfl, run_takeDeferred hK, ?_⟩⟩
      have hc5 := cell_kept (i4.cell0 (i := 0) rfl) (grownBy_putObj' _ D (.deferred none)) (fun r e => by cases e; exact ⟨_, hK, rfl⟩)
      refine ⟨.bool false, ?_, by rw [HN.out], behind j4 hK hD bw.size⟩
      simp [results, Tryz.results26, go_sem, hc5]
end Go.Proofs.YtibkmhmeoelpdaaGreat
