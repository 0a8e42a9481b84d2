/- PreRegion of the model, and KeepRegion of both, over the translation. -/
import Derived.Test.YtdjjncofahnaaaaGreatVe
import Derived.Test.YtdjjncofahnaaaaGreatGv
import Derived.Test.YtdjjncofahnaaaaGreatPe
namespace Go.Proofs.YtdjjncofahnaaaaGreat
open Go.RowKit
open Geo (H3)

theorem pr_rp {zs : List Int} {q bx cy lo hi : Int} {ps qs rs : List H3} (h : rpB zs q bx cy lo hi ps qs rs = false) : prL zs q bx cy lo hi ps qs rs = [] ∧ prB zs q bx cy lo hi ps qs rs = false :=
  pr_no (by unfold rpB at h; rw [h]; rfl)
theorem rp_tt {zs : List Int} {q bx cy lo hi : Int} {ps qs rs : List H3} (h : rpB zs q bx cy lo hi ps qs rs = true) : rmB zs q bx cy lo hi ps qs = true ∧ prT zs q bx cy lo hi ps rs 1 = true := by
  unfold rpB at h
  rw [Bool.and_eq_true] at h
  exact h
set_option maxRecDepth 100000 in
set_option maxHeartbeats 1600000 in
theorem spec_pr (am : Option Addr) (nm cm : Nat) (zs : List Int) (q bx cy lo hi : Int) (an : Option Addr) (nn cn : Nat) (ps : List H3) (al : Option Addr) (nl cl : Nat) (qs : List H3) (a : Option Addr) (n ca : Nat) (rs : List H3) (w : World) (hA : RAt w am nm zs an nn ps al nl qs) (h64 : R64 q bx cy lo hi ps qs) (hle : nm + nn + nl ≤ 1048576) (hl : rs.length = n) (hn : n ≤ 1048576) (hr64 : ∀ h ∈ rs, In64 h) (hz : a = none → n = 0 ∧ ca = 0) (hG : HsAt w a rs) (hnl : RNil am nm cm an nn cn al nl cl) :
    Calls Tryz.prog 124 #[.agg #[.slice am nm cm, .int .i64 q, .int .i64 bx, .int .i64 cy, .int .i64 lo, .int .i64 hi, .slice an nn cn, .slice al nl cl], .agg #[.slice a n ca]] w (AnsR w (prL zs q bx cy lo hi ps qs rs) (prB zs q bx cy lo hi ps qs rs)) := by
  have bV := below_bx2 (below_bx2 (below_one w (.cells #[.slice am nm cm, .int .i64 q, .int .i64 bx, .int .i64 cy, .int .i64 lo, .int .i64 hi, .slice an nn cn, .slice al nl cl] 28)) (.cells #[.slice a n ca] 26)) (.cells #[.slice none 0 0] 26)
  have K0 := ((blk_new w #[.slice am nm cm, .int .i64 q, .int .i64 bx, .int .i64 cy, .int .i64 lo, .int .i64 hi, .slice an nn cn, .slice al nl cl] 28 (b := w.heap.size) (by simp)).to (below_one _ (.cells #[.slice a n ca] 26))).to (below_one _ (.cells #[.slice none 0 0] 26))
  have K1 := (blk_new (w.alloc (.cells #[.slice am nm cm, .int .i64 q, .int .i64 bx, .int .i64 cy, .int .i64 lo, .int .i64 hi, .slice an nn cn, .slice al nl cl] 28)) #[.slice a n ca] 26 (b := w.heap.size + 1) (by simp)).to (below_one _ (.cells #[.slice none 0 0] 26))
  have K2 := blk_new ((w.alloc (.cells #[.slice am nm cm, .int .i64 q, .int .i64 bx, .int .i64 cy, .int .i64 lo, .int .i64 hi, .slice an nn cn, .slice al nl cl] 28)).alloc (.cells #[.slice a n ca] 26)) #[.slice none 0 0] 26 (b := w.heap.size + 1 + 1) (by simp)
  have HE := Lib.hid (fun V (h : Below w.heap.size w V) => spec_rp am nm cm zs q bx cy lo hi an nn cn ps al nl cl qs a n ca rs V (hA.below h) h64 hle hl hn hr64 hz (hG.below h) hnl)
  have H1 := Lib.hid (fun V a1 c1 (k0 : a1 = none → (eroL rs ps).length = 0 ∧ c1 = 0) (k : HsAt V a1 (eroL rs ps)) => spec_grw a1 (eroL rs ps).length c1 (eroL rs ps) bx cy lo hi V rfl (Nat.le_trans (ero_len _ _) (by omega)) (ero_64 _ _) k0 k)
  have H2 := Lib.hid (fun V a1 c1 (h : Below w.heap.size w V) (k0 : a1 = none → (gwL (eroL rs ps) bx cy lo hi).length = 0 ∧ c1 = 0) (k : HsAt V a1 (gwL (eroL rs ps) bx cy lo hi)) => spec_pb a1 (gwL (eroL rs ps) bx cy lo hi).length c1 (gwL (eroL rs ps) bx cy lo hi) am nm cm zs q V rfl (Nat.le_trans (prG_len bx cy lo hi ps rs) (by omega)) (prG_64 bx cy lo hi ps rs) k0 hA.lm k (hA.hm.below h))
  clear hA h64 hl hn hr64 hz hG hnl
  have c0_0 := K0.c8_0
  have c0_1 := K0.c8_1
  have c0_2 := K0.c8_2
  have c0_3 := K0.c8_3
  have c0_4 := K0.c8_4
  have c0_5 := K0.c8_5
  have c0_6 := K0.c8_6
  have c0_7 := K0.c8_7
  have c1_0 := K1.cell0 (i := 0) (v := .slice a n ca) rfl
  go_enter Tryz.func124, Tryz.ntmps124
  go_wp2_with fail
  clear c0_0 c0_1 c0_2 c0_3 c0_4 c0_5 c0_6 c0_7 c1_0
  generalize (((w.alloc (.cells #[.slice am nm cm, .int .i64 q, .int .i64 bx, .int .i64 cy, .int .i64 lo, .int .i64 hi, .slice an nn cn, .slice al nl cl] 28)).alloc (.cells #[.slice a n ca] 26)).alloc (.cells #[.slice none 0 0] 26)) = V at *
  refine (HE.out _ bV).mono ?_
  rintro e w1 ⟨ag, cg, rfl, ho, bl1⟩
  have b1 := below_to bV bl1
  have L0 := K0.to bl1
  have L2 := K2.to bl1
  clear bV K0 K1 K2 HE
  cases hb : rpB zs q bx cy lo hi ps qs rs with
  | false =>
    have HN := Lib.hid (pr_rp hb)
    have bY := below_one w1 (.cells #[.slice ag (rpL zs q bx cy lo hi ps qs rs).length cg] 26)
    have q2 := (L2.to bY).cell0 (i := 0) (v := .slice none 0 0) rfl
    have f2 := (L2.to bY).free 0
    have b2 := below_to b1 bY
    clear ho hb bl1 b1 L0 L2 bY H1 H2
    go_wp2_with fail
    exact bodyPost_ret (v := .tuple #[.agg #[.slice none 0 0], .bool false]) (by simp [results, Tryz.results124, go_sem, q2]) rfl (AnsR.no HN.out.1 HN.out.2 (b2.setCell (p := ⟨w.heap.size + 1 + 1, 0, none⟩) (Nat.le_add_right _ 2) _))
  | true =>
    obtain ⟨hr, he⟩ := rp_tt hb
    have hL := (rp_yes (rs := rs) hr).1
    rw [hL] at ho ⊢
    have bY := below_one w1 (.cells #[.slice ag (eroL rs ps).length cg] 26)
    have HO := Lib.hid (own_below ho bY)
    have N3 := blk_new w1 #[.slice ag (eroL rs ps).length cg] 26 rfl
    have M0 := L0.to bY
    have M2 := L2.to bY
    have b2 := below_to b1 bY
    clear ho hb hL bl1 b1 L0 L2 bY
    have m2 := M0.c8_2
    have m3 := M0.c8_3
    have m4 := M0.c8_4
    have m5 := M0.c8_5
    have n3 := N3.cell0 (i := 0) rfl
    go_wp2_with fail
    clear m2 m3 m4 m5 n3
    generalize w1.alloc (.cells #[.slice ag (eroL rs ps).length cg] 26) = U at *
    refine (H1.out U _ _ (own_nil HO.out) (own_hs HO.out)).mono ?_
    rintro e w3 ⟨ah, ch, rfl, ho, bl3⟩
    have b3 := below_to b2 bl3
    have L0 := M0.to bl3
    have L2 := M2.to bl3
    clear HO M0 M2 N3 H1
    have bY := below_one w3 (.cells #[.slice ah (gwL (eroL rs ps) bx cy lo hi).length ch] 26)
    have b4 := below_to b3 bY
    cases hg : gwB (eroL rs ps) bx cy lo hi with
    | false =>
      have HN := Lib.hid (pr_f1 (qs := qs) hr he hg)
      have q2 := (L2.to bY).cell0 (i := 0) (v := .slice none 0 0) rfl
      have f2 := (L2.to bY).free 0
      clear ho hg hr he bl3 b2 b3 L0 L2 bY H2
      go_wp2_with fail
      exact bodyPost_ret (v := .tuple #[.agg #[.slice none 0 0], .bool false]) (by simp [results, Tryz.results124, go_sem, q2]) rfl (AnsR.no HN.out.1 HN.out.2 (b4.setCell (p := ⟨w.heap.size + 1 + 1, 0, none⟩) (Nat.le_add_right _ 2) _))
    | true =>
      have HN0 := pr_yes (rs := rs) (qs := qs) (by rw [hr, hg, show eroB rs ps = true from he]; rfl : (rmB zs q bx cy lo hi ps qs && eroB rs ps && gwB (eroL rs ps) bx cy lo hi) = true)
      unfold prG at HN0
      have HN := Lib.hid HN0
      clear HN0
      have HO := Lib.hid (own_below ho bY)
      have N3 := blk_new w3 #[.slice ah (gwL (eroL rs ps) bx cy lo hi).length ch] 26 rfl
      have M0 := L0.to bY
      have M2 := L2.to bY
      clear ho hg hr he bl3 b2 b3 L0 L2 bY
      have m0 := M0.c8_0
      have m1 := M0.c8_1
      have n3 := N3.cell0 (i := 0) rfl
      go_wp2_with fail
      clear m0 m1 n3
      generalize w3.alloc (.cells #[.slice ah (gwL (eroL rs ps) bx cy lo hi).length ch] 26) = X at *
      refine (H2.out X _ _ b4 (own_nil HO.out) (own_hs HO.out)).mono ?_
      rintro e w5 ⟨ai, ci, rfl, ho, bl5⟩
      have Q2 := M2.to bl5
      have q2 := Q2.cell0 (i := 0) (v := .slice none 0 0) rfl
      have f2 := Q2.free 0
      have HF := Lib.hid (AnsR.put (p := ⟨w.heap.size + 1 + 1, 0, none⟩) (w := w) (L := prL zs q bx cy lo hi ps qs rs) (b := prB zs q bx cy lo hi ps qs rs) ho HN.out.1 HN.out.2 b4 bl5 M2.lt (Nat.le_add_right _ 2))
      clear ho bl5 b4 M0 M2 N3 Q2 HN HO H2
      generalize (pbkL (gwL (eroL rs ps) bx cy lo hi) zs q).length = len at *
      generalize pbkB (gwL (eroL rs ps) bx cy lo hi) zs q = R at *
      go_wp2_with fail
      exact bodyPost_ret (v := .tuple #[.agg #[.slice ai len ci], .bool R]) (by simp [results, Tryz.results124, go_sem, q2]) rfl HF.out
set_option maxRecDepth 100000 in
set_option maxHeartbeats 1600000 in
theorem impl_kp (am : Option Addr) (nm cm : Nat) (zs : List Int) (q bx cy lo hi : Int) (an : Option Addr) (nn cn : Nat) (ps : List H3) (al : Option Addr) (nl cl : Nat) (qs : List H3) (a : Option Addr) (n ca : Nat) (rs : List H3) (w : World) (hA : RAt w am nm zs an nn ps al nl qs) (h64 : R64 q bx cy lo hi ps qs) (hle : nm + nn + nl ≤ 1048576) (hl : rs.length = n) (hn : n ≤ 1048576) (hr64 : ∀ h ∈ rs, In64 h) (hz : a = none → n = 0 ∧ ca = 0) (hG : HsAt w a rs) :
    Calls Tryz.prog 62 #[.agg #[.slice am nm cm, .int .i64 q, .int .i64 bx, .int .i64 cy, .int .i64 lo, .int .i64 hi, .slice an nn cn, .slice al nl cl], .agg #[.slice a n ca]] w (AnsR w (kpL zs q bx cy lo hi ps qs rs) (kpB zs q bx cy lo hi ps qs rs)) := by
  have bV := below_bx2 (below_bx2 (below_one w (.cells #[.slice am nm cm, .int .i64 q, .int .i64 bx, .int .i64 cy, .int .i64 lo, .int .i64 hi, .slice an nn cn, .slice al nl cl] 28)) (.cells #[.slice a n ca] 26)) (.cells #[.slice none 0 0] 26)
  have K0 := ((blk_new w #[.slice am nm cm, .int .i64 q, .int .i64 bx, .int .i64 cy, .int .i64 lo, .int .i64 hi, .slice an nn cn, .slice al nl cl] 28 (b := w.heap.size) (by simp)).to (below_one _ (.cells #[.slice a n ca] 26))).to (below_one _ (.cells #[.slice none 0 0] 26))
  have K1 := (blk_new (w.alloc (.cells #[.slice am nm cm, .int .i64 q, .int .i64 bx, .int .i64 cy, .int .i64 lo, .int .i64 hi, .slice an nn cn, .slice al nl cl] 28)) #[.slice a n ca] 26 (b := w.heap.size + 1) (by simp)).to (below_one _ (.cells #[.slice none 0 0] 26))
  have K2 := blk_new ((w.alloc (.cells #[.slice am nm cm, .int .i64 q, .int .i64 bx, .int .i64 cy, .int .i64 lo, .int .i64 hi, .slice an nn cn, .slice al nl cl] 28)).alloc (.cells #[.slice a n ca] 26)) #[.slice none 0 0] 26 (b := w.heap.size + 1 + 1) (by simp)
  have HE := Lib.hid (fun V (h : Below w.heap.size w V) => impl_pr am nm cm zs q bx cy lo hi an nn cn ps al nl cl qs a n ca rs V (hA.below h) h64 hle hl hn hr64 hz (hG.below h))
  have H1 := Lib.hid (fun V a1 c1 (h : Below w.heap.size w V) (_k0 : a1 = none → (prL zs q bx cy lo hi ps qs rs).length = 0 ∧ c1 = 0) (k : HsAt V a1 (prL zs q bx cy lo hi ps qs rs)) => impl_met a a1 n (prL zs q bx cy lo hi ps qs rs).length ca c1 rs (prL zs q bx cy lo hi ps qs rs) V hl rfl hn (Nat.le_trans (prL_len _ _ _ _ _ _ _ _ _) (by omega)) hr64 (prL_64 _ _ _ _ _ _ _ _ _) (hG.below h) k)
  clear hA h64 hl hn hr64 hz hG
  have c0_0 := K0.c8_0
  have c0_1 := K0.c8_1
  have c0_2 := K0.c8_2
  have c0_3 := K0.c8_3
  have c0_4 := K0.c8_4
  have c0_5 := K0.c8_5
  have c0_6 := K0.c8_6
  have c0_7 := K0.c8_7
  have c1_0 := K1.cell0 (i := 0) (v := .slice a n ca) rfl
  go_enter Tryz.func62, Tryz.ntmps62
  go_wp2_with fail
  clear c0_0 c0_1 c0_2 c0_3 c0_4 c0_5 c0_6 c0_7 c1_0
  generalize (((w.alloc (.cells #[.slice am nm cm, .int .i64 q, .int .i64 bx, .int .i64 cy, .int .i64 lo, .int .i64 hi, .slice an nn cn, .slice al nl cl] 28)).alloc (.cells #[.slice a n ca] 26)).alloc (.cells #[.slice none 0 0] 26)) = V at *
  refine (HE.out _ bV).mono ?_
  rintro e w1 ⟨ag, cg, rfl, ho, bl1⟩
  have b1 := below_to bV bl1
  have L1 := K1.to bl1
  have L2 := K2.to bl1
  clear bV K0 K1 K2 HE
  have bY := below_one w1 (.cells #[.slice ag (prL zs q bx cy lo hi ps qs rs).length cg] 26)
  have b2 := below_to b1 bY
  have N3 := blk_new w1 #[.slice ag (prL zs q bx cy lo hi ps qs rs).length cg] 26 rfl
  have M1 := L1.to bY
  have M2 := L2.to bY
  have HO := Lib.hid (own_below ho bY)
  clear ho bl1 b1 L1 L2 bY
  cases hb : prB zs q bx cy lo hi ps qs rs with
  | false =>
    have HN := Lib.hid (kp_no hb)
    have q2 := M2.cell0 (i := 0) (v := .slice none 0 0) rfl
    have f2 := M2.free 0
    clear hb H1 HO M1 N3
    go_wp2_with fail
    exact bodyPost_ret (v := .tuple #[.agg #[.slice none 0 0], .bool false]) (by simp [results, Tryz.results62, go_sem, q2]) rfl (AnsR.no HN.out.1 HN.out.2 (b2.setCell (p := ⟨w.heap.size + 1 + 1, 0, none⟩) (Nat.le_add_right _ 2) _))
  | true =>
    have HN := Lib.hid (kp_yes hb)
    have m1 := M1.cell0 (i := 0) (v := .slice a n ca) rfl
    have n3 := N3.cell0 (i := 0) rfl
    clear hb
    go_wp2_with fail
    clear m1 n3
    generalize w1.alloc (.cells #[.slice ag (prL zs q bx cy lo hi ps qs rs).length cg] 26) = U at *
    refine (H1.out U _ _ b2 (own_nil HO.out) (own_hs HO.out)).mono ?_
    rintro e w3 ⟨ah, ch, rfl, ho, bl3⟩
    have Q2 := M2.to bl3
    have q2 := Q2.cell0 (i := 0) (v := .slice none 0 0) rfl
    have f2 := Q2.free 0
    have HF := Lib.hid (AnsR.put (p := ⟨w.heap.size + 1 + 1, 0, none⟩) (w := w) (L := kpL zs q bx cy lo hi ps qs rs) (b := kpB zs q bx cy lo hi ps qs rs) ho HN.out.1 HN.out.2 b2 bl3 M2.lt (Nat.le_add_right _ 2))
    clear ho bl3 b2 M1 M2 N3 Q2 HN HO H1
    generalize (metL rs (prL zs q bx cy lo hi ps qs rs)).length = len at *
    generalize metB rs (prL zs q bx cy lo hi ps qs rs) = R at *
    go_wp2_with fail
    exact bodyPost_ret (v := .tuple #[.agg #[.slice ah len ch], .bool R]) (by simp [results, Tryz.results62, go_sem, q2]) rfl HF.out
set_option maxRecDepth 100000 in
set_option maxHeartbeats 1600000 in
theorem spec_kp (am : Option Addr) (nm cm : Nat) (zs : List Int) (q bx cy lo hi : Int) (an : Option Addr) (nn cn : Nat) (ps : List H3) (al : Option Addr) (nl cl : Nat) (qs : List H3) (a : Option Addr) (n ca : Nat) (rs : List H3) (w : World) (hA : RAt w am nm zs an nn ps al nl qs) (h64 : R64 q bx cy lo hi ps qs) (hle : nm + nn + nl ≤ 1048576) (hl : rs.length = n) (hn : n ≤ 1048576) (hr64 : ∀ h ∈ rs, In64 h) (hz : a = none → n = 0 ∧ ca = 0) (hG : HsAt w a rs) (hnl : RNil am nm cm an nn cn al nl cl) :
    Calls Tryz.prog 75 #[.agg #[.slice am nm cm, .int .i64 q, .int .i64 bx, .int .i64 cy, .int .i64 lo, .int .i64 hi, .slice an nn cn, .slice al nl cl], .agg #[.slice a n ca]] w (AnsR w (kpL zs q bx cy lo hi ps qs rs) (kpB zs q bx cy lo hi ps qs rs)) := by
  have bV := below_bx2 (below_bx2 (below_one w (.cells #[.slice am nm cm, .int .i64 q, .int .i64 bx, .int .i64 cy, .int .i64 lo, .int .i64 hi, .slice an nn cn, .slice al nl cl] 28)) (.cells #[.slice a n ca] 26)) (.cells #[.slice none 0 0] 26)
  have K0 := ((blk_new w #[.slice am nm cm, .int .i64 q, .int .i64 bx, .int .i64 cy, .int .i64 lo, .int .i64 hi, .slice an nn cn, .slice al nl cl] 28 (b := w.heap.size) (by simp)).to (below_one _ (.cells #[.slice a n ca] 26))).to (below_one _ (.cells #[.slice none 0 0] 26))
  have K1 := (blk_new (w.alloc (.cells #[.slice am nm cm, .int .i64 q, .int .i64 bx, .int .i64 cy, .int .i64 lo, .int .i64 hi, .slice an nn cn, .slice al nl cl] 28)) #[.slice a n ca] 26 (b := w.heap.size + 1) (by simp)).to (below_one _ (.cells #[.slice none 0 0] 26))
  have K2 := blk_new ((w.alloc (.cells #[.slice am nm cm, .int .i64 q, .int .i64 bx, .int .i64 cy, .int .i64 lo, .int .i64 hi, .slice an nn cn, .slice al nl cl] 28)).alloc (.cells #[.slice a n ca] 26)) #[.slice none 0 0] 26 (b := w.heap.size + 1 + 1) (by simp)
  have HE := Lib.hid (fun V (h : Below w.heap.size w V) => spec_pr am nm cm zs q bx cy lo hi an nn cn ps al nl cl qs a n ca rs V (hA.below h) h64 hle hl hn hr64 hz (hG.below h) hnl)
  have H1 := Lib.hid (fun V a1 c1 (h : Below w.heap.size w V) (k0 : a1 = none → (prL zs q bx cy lo hi ps qs rs).length = 0 ∧ c1 = 0) (k : HsAt V a1 (prL zs q bx cy lo hi ps qs rs)) => spec_met a a1 n (prL zs q bx cy lo hi ps qs rs).length ca c1 rs (prL zs q bx cy lo hi ps qs rs) V hl rfl hn (Nat.le_trans (prL_len _ _ _ _ _ _ _ _ _) (by omega)) hr64 (prL_64 _ _ _ _ _ _ _ _ _) hz k0 (hG.below h) k)
  clear hA h64 hl hn hr64 hz hG hnl
  have c0_0 := K0.c8_0
  have c0_1 := K0.c8_1
  have c0_2 := K0.c8_2
  have c0_3 := K0.c8_3
  have c0_4 := K0.c8_4
  have c0_5 := K0.c8_5
  have c0_6 := K0.c8_6
  have c0_7 := K0.c8_7
  have c1_0 := K1.cell0 (i := 0) (v := .slice a n ca) rfl
  go_enter Tryz.func75, Tryz.ntmps75
  go_wp2_with fail
  clear c0_0 c0_1 c0_2 c0_3 c0_4 c0_5 c0_6 c0_7 c1_0
  generalize (((w.alloc (.cells #[.slice am nm cm, .int .i64 q, .int .i64 bx, .int .i64 cy, .int .i64 lo, .int .i64 hi, .slice an nn cn, .slice al nl cl] 28)).alloc (.cells #[.slice a n ca] 26)).alloc (.cells #[.slice none 0 0] 26)) = V at *
  refine (HE.out _ bV).mono ?_
  rintro e w1 ⟨ag, cg, rfl, ho, bl1⟩
  have b1 := below_to bV bl1
  have L1 := K1.to bl1
  have L2 := K2.to bl1
  clear bV K0 K1 K2 HE
  have bY := below_one w1 (.cells #[.slice ag (prL zs q bx cy lo hi ps qs rs).length cg] 26)
  have b2 := below_to b1 bY
  have N3 := blk_new w1 #[.slice ag (prL zs q bx cy lo hi ps qs rs).length cg] 26 rfl
  have M1 := L1.to bY
  have M2 := L2.to bY
  have HO := Lib.hid (own_below ho bY)
  clear ho bl1 b1 L1 L2 bY
  cases hb : prB zs q bx cy lo hi ps qs rs with
  | false =>
    have HN := Lib.hid (kp_no hb)
    have q2 := M2.cell0 (i := 0) (v := .slice none 0 0) rfl
    have f2 := M2.free 0
    clear hb H1 HO M1 N3
    go_wp2_with fail
    exact bodyPost_ret (v := .tuple #[.agg #[.slice none 0 0], .bool false]) (by simp [results, Tryz.results75, go_sem, q2]) rfl (AnsR.no HN.out.1 HN.out.2 (b2.setCell (p := ⟨w.heap.size + 1 + 1, 0, none⟩) (Nat.le_add_right _ 2) _))
  | true =>
    have HN := Lib.hid (kp_yes hb)
    have m1 := M1.cell0 (i := 0) (v := .slice a n ca) rfl
    have n3 := N3.cell0 (i := 0) rfl
    clear hb
    go_wp2_with fail
    clear m1 n3
    generalize w1.alloc (.cells #[.slice ag (prL zs q bx cy lo hi ps qs rs).length cg] 26) = U at *
    refine (H1.out U _ _ b2 (own_nil HO.out) (own_hs HO.out)).mono ?_
    rintro e w3 ⟨ah, ch, rfl, ho, bl3⟩
    have Q2 := M2.to bl3
    have q2 := Q2.cell0 (i := 0) (v := .slice none 0 0) rfl
    have f2 := Q2.free 0
    have HF := Lib.hid (AnsR.put (p := ⟨w.heap.size + 1 + 1, 0, none⟩) (w := w) (L := kpL zs q bx cy lo hi ps qs rs) (b := kpB zs q bx cy lo hi ps qs rs) ho HN.out.1 HN.out.2 b2 bl3 M2.lt (Nat.le_add_right _ 2))
    clear ho bl3 b2 M1 M2 N3 Q2 HN HO H1
    generalize (metL rs (prL zs q bx cy lo hi ps qs rs)).length = len at *
    generalize metB rs (prL zs q bx cy lo hi ps qs rs) = R at *
    go_wp2_with fail
    exact bodyPost_ret (v := .tuple #[.agg #[.slice ah len ch], .bool R]) (by simp [results, Tryz.results75, go_sem, q2]) rfl HF.out
end Go.Proofs.YtdjjncofahnaaaaGreat
