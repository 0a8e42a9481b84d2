/- The program's WithRange, over the translation. The program's WithNoise, over the translation. -/
import Derived.Test.YtdjjncofahnaaaaGreatKy
namespace Go.Proofs.YtdjjncofahnaaaaGreat
open Go.RowKit
open Geo (H3)

set_option maxRecDepth 100000 in
set_option maxHeartbeats 3200000 in
theorem impl_wra (am : Option Addr) (nm cm : Nat) (zs : List Int) (q bx cy lo hi : Int) (an : Option Addr) (nn cn : Nat) (ps : List H3) (al : Option Addr) (nl cl : Nat) (qs : List H3) (w : World) (lo2 hi2 : Int) (hA : RAt w am nm zs an nn ps al nl qs) (h64 : R64 q bx cy lo hi ps qs) (hl2 : -9223372036854775808 ≤ lo2 ∧ lo2 ≤ 9223372036854775807) (hh2 : -9223372036854775808 ≤ hi2 ∧ hi2 ≤ 9223372036854775807) (hle : nm + nn + nl ≤ 1048576) :
    Calls Tryz.prog 24 #[.agg #[.slice am nm cm, .int .i64 q, .int .i64 bx, .int .i64 cy, .int .i64 lo, .int .i64 hi, .slice an nn cn, .slice al nl cl], .int .i64 lo2, .int .i64 hi2] w (AnsM w (rmB zs q bx cy lo hi ps qs && rmB zs q bx cy lo2 hi2 ps qs) zs q bx cy lo2 hi2 ps qs) := by
  have bV := below_bx2 (below_one w (.cells #[.slice am nm cm, .int .i64 q, .int .i64 bx, .int .i64 cy, .int .i64 lo, .int .i64 hi, .slice an nn cn, .slice al nl cl] 28)) (.cells #[.slice none 0 0, .int .i64 0, .int .i64 0, .int .i64 0, .int .i64 0, .int .i64 0, .slice none 0 0, .slice none 0 0] 28)
  have K0 := (blk_new w #[.slice am nm cm, .int .i64 q, .int .i64 bx, .int .i64 cy, .int .i64 lo, .int .i64 hi, .slice an nn cn, .slice al nl cl] 28 rfl).to (below_one _ (.cells #[.slice none 0 0, .int .i64 0, .int .i64 0, .int .i64 0, .int .i64 0, .int .i64 0, .slice none 0 0, .slice none 0 0] 28))
  have K1 := blk_new (w.alloc (.cells #[.slice am nm cm, .int .i64 q, .int .i64 bx, .int .i64 cy, .int .i64 lo, .int .i64 hi, .slice an nn cn, .slice al nl cl] 28)) #[.slice none 0 0, .int .i64 0, .int .i64 0, .int .i64 0, .int .i64 0, .int .i64 0, .slice none 0 0, .slice none 0 0] 28 (b := w.heap.size + 1) (by simp)
  have HR := Lib.hid (fun V (h : Below w.heap.size w V) => impl_room am nm cm zs q bx cy lo hi an nn cn ps al nl cl qs V _ rfl (hA.below h) h64 hle)
  have HI := Lib.hid (fun V (h : Below w.heap.size w V) => impl_rio am nm cm zs q bx cy lo2 hi2 an nn cn ps al nl cl qs V _ rfl (hA.below h) ⟨h64.q, h64.bx, h64.cy, hl2, hh2, h64.ps, h64.qs⟩ hle)
  clear hA h64 hl2 hh2
  have k0 := K0.c8_0
  have k1 := K0.c8_1
  have k2 := K0.c8_2
  have k3 := K0.c8_3
  have k4 := K0.c8_4
  have k5 := K0.c8_5
  have k6 := K0.c8_6
  have k7 := K0.c8_7
  go_enter Tryz.func24, Tryz.ntmps24
  go_wp2_with fail
  generalize ((w.alloc (.cells #[.slice am nm cm, .int .i64 q, .int .i64 bx, .int .i64 cy, .int .i64 lo, .int .i64 hi, .slice an nn cn, .slice al nl cl] 28)).alloc (.cells #[.slice none 0 0, .int .i64 0, .int .i64 0, .int .i64 0, .int .i64 0, .int .i64 0, .slice none 0 0, .slice none 0 0] 28)) = V at *
  refine (HR.out _ bV).mono ?_
  rintro e w1 ⟨rfl, bl1⟩
  have b1 := below_to bV bl1
  have L0 := K0.to bl1
  have L1 := K1.to bl1
  clear bV bl1 k0 k1 k2 k3 k4 k5 k6 k7 K0 K1 HR
  generalize rmB zs q bx cy lo hi ps qs = r1 at *
  generalize rmB zs q bx cy lo2 hi2 ps qs = r2 at *
  cases r1 with
  | false =>
    have f0 := L1.free 0
    have c0 := L1.c8_0
    have f1 := L1.free 1
    have c1 := L1.c8_1
    have f2 := L1.free 2
    have c2 := L1.c8_2
    have f3 := L1.free 3
    have c3 := L1.c8_3
    have f4 := L1.free 4
    have c4 := L1.c8_4
    have f5 := L1.free 5
    have c5 := L1.c8_5
    have f6 := L1.free 6
    have c6 := L1.c8_6
    have f7 := L1.free 7
    have c7 := L1.c8_7
    go_wp2_with fail
    clear f0 f1 f2 f3 f4 f5 f6 f7 c0 c1 c2 c3 c4 c5 c6 c7
    obtain hz : Blk (put8 w1 (w.heap.size + 1) (.slice none 0 0) (.int .i64 0) (.int .i64 0) (.int .i64 0) (.int .i64 0) (.int .i64 0) (.slice none 0 0) (.slice none 0 0)) _ _ _ := put8_blk L1 _ _ _ _ _ _ _ _
    have e0 := hz.c8_0
    have e1 := hz.c8_1
    have e2 := hz.c8_2
    have e3 := hz.c8_3
    have e4 := hz.c8_4
    have e5 := hz.c8_5
    have e6 := hz.c8_6
    have e7 := hz.c8_7
    unfold put8 at e0 e1 e2 e3 e4 e5 e6 e7
    exact bodyPost_ret (v := .tuple #[.agg #[.slice none 0 0, .int .i64 0, .int .i64 0, .int .i64 0, .int .i64 0, .int .i64 0, .slice none 0 0, .slice none 0 0], .bool false]) (by simp [results, Tryz.results24, go_sem, e0, e1, e2, e3, e4, e5, e6, e7]) rfl (AnsM.no (by simp) (put8_below b1 (Nat.le_add_right _ _) _ _ _ _ _ _ _ _))
  | true =>
    have N0 := (L0.s8_4 (.int .i64 lo2)).s8_5 (.int .i64 hi2)
    have N1 := blk_far (blk_far L1 (p := ⟨w.heap.size, 4, none⟩) (.int .i64 lo2) (by simp)) (p := ⟨w.heap.size, 5, none⟩) (.int .i64 hi2) (by simp)
    have bX := (b1.setCell (p := ⟨w.heap.size, 4, none⟩) (Nat.le_refl _) (.int .i64 lo2)).setCell (p := ⟨w.heap.size, 5, none⟩) (Nat.le_refl _) (.int .i64 hi2)
    have f4 := L0.free 4
    have c4 := L0.c8_4
    have f5 := (L0.s8_4 (.int .i64 lo2)).free 5
    have c5 := (L0.s8_4 (.int .i64 lo2)).c8_5
    have k0 := N0.c8_0
    have k1 := N0.c8_1
    have k2 := N0.c8_2
    have k3 := N0.c8_3
    have k4 := N0.c8_4
    have k5 := N0.c8_5
    have k6 := N0.c8_6
    have k7 := N0.c8_7
    go_wp2_with fail
    clear f4 c4 f5 c5 k0 k1 k2 k3 k4 k5 k6 k7 L0 L1 b1
    generalize (w1.setCell ⟨w.heap.size, 4, none⟩ (.int .i64 lo2)).setCell ⟨w.heap.size, 5, none⟩ (.int .i64 hi2) = X at *
    have lX := N1.lt
    refine (HI.out _ bX).mono ?_
    rintro e w2 (⟨hb, rfl, bl2⟩ | ⟨hb, am', cm', an', cn', al', cl', rfl, ho, bl2⟩)
    · have b2 := below_to bX bl2
      have M1 := N1.to bl2
      have HN := Lib.hid (show (true && r2) = false by rw [hb]; rfl)
      clear hb
      have f0 := M1.free 0
      have c0 := M1.c8_0
      have f1 := M1.free 1
      have c1 := M1.c8_1
      have f2 := M1.free 2
      have c2 := M1.c8_2
      have f3 := M1.free 3
      have c3 := M1.c8_3
      have f4 := M1.free 4
      have c4 := M1.c8_4
      have f5 := M1.free 5
      have c5 := M1.c8_5
      have f6 := M1.free 6
      have c6 := M1.c8_6
      have f7 := M1.free 7
      have c7 := M1.c8_7
      go_wp2_with fail
      clear f0 f1 f2 f3 f4 f5 f6 f7 c0 c1 c2 c3 c4 c5 c6 c7
      obtain hz : Blk (put8 w2 (w.heap.size + 1) (.slice none 0 0) (.int .i64 0) (.int .i64 0) (.int .i64 0) (.int .i64 0) (.int .i64 0) (.slice none 0 0) (.slice none 0 0)) _ _ _ := put8_blk M1 _ _ _ _ _ _ _ _
      have e0 := hz.c8_0
      have e1 := hz.c8_1
      have e2 := hz.c8_2
      have e3 := hz.c8_3
      have e4 := hz.c8_4
      have e5 := hz.c8_5
      have e6 := hz.c8_6
      have e7 := hz.c8_7
      unfold put8 at e0 e1 e2 e3 e4 e5 e6 e7
      exact bodyPost_ret (v := .tuple #[.agg #[.slice none 0 0, .int .i64 0, .int .i64 0, .int .i64 0, .int .i64 0, .int .i64 0, .slice none 0 0, .slice none 0 0], .bool false]) (by simp [results, Tryz.results24, go_sem, e0, e1, e2, e3, e4, e5, e6, e7]) rfl (AnsM.no HN.out (put8_below b2 (Nat.le_add_right _ _) _ _ _ _ _ _ _ _))
    · have b2 := below_to bX bl2
      have M1 := N1.to bl2
      have HN := Lib.hid (show (true && r2) = true by rw [hb]; rfl)
      have zX := bX.size
      have HO : ROwn (put8 w2 (w.heap.size + 1) (.slice am' zs.length cm') (.int .i64 q) (.int .i64 bx) (.int .i64 cy) (.int .i64 lo2) (.int .i64 hi2) (.slice an' ps.length cn') (.slice al' qs.length cl')) w.heap.size am' zs.length cm' zs an' ps.length cn' ps al' qs.length cl' qs :=
        ⟨own_base (put8_own ho.om lX _ _ _ _ _ _ _ _) (by omega), own_base (put8_own ho.on lX _ _ _ _ _ _ _ _) (by omega), own_base (put8_own ho.ol lX _ _ _ _ _ _ _ _) (by omega), ho.d1, ho.d2, ho.d3⟩
      have HO' := Lib.hid HO
      clear hb HO ho
      have f0 := M1.free 0
      have c0 := M1.c8_0
      have f1 := M1.free 1
      have c1 := M1.c8_1
      have f2 := M1.free 2
      have c2 := M1.c8_2
      have f3 := M1.free 3
      have c3 := M1.c8_3
      have f4 := M1.free 4
      have c4 := M1.c8_4
      have f5 := M1.free 5
      have c5 := M1.c8_5
      have f6 := M1.free 6
      have c6 := M1.c8_6
      have f7 := M1.free 7
      have c7 := M1.c8_7
      go_wp2_with fail
      clear f0 f1 f2 f3 f4 f5 f6 f7 c0 c1 c2 c3 c4 c5 c6 c7
      obtain hz : Blk (put8 w2 (w.heap.size + 1) (.slice am' zs.length cm') (.int .i64 q) (.int .i64 bx) (.int .i64 cy) (.int .i64 lo2) (.int .i64 hi2) (.slice an' ps.length cn') (.slice al' qs.length cl')) _ _ _ := put8_blk M1 _ _ _ _ _ _ _ _
      have e0 := hz.c8_0
      have e1 := hz.c8_1
      have e2 := hz.c8_2
      have e3 := hz.c8_3
      have e4 := hz.c8_4
      have e5 := hz.c8_5
      have e6 := hz.c8_6
      have e7 := hz.c8_7
      unfold put8 at e0 e1 e2 e3 e4 e5 e6 e7
      exact bodyPost_ret (v := .tuple #[.agg #[.slice am' zs.length cm', .int .i64 q, .int .i64 bx, .int .i64 cy, .int .i64 lo2, .int .i64 hi2, .slice an' ps.length cn', .slice al' qs.length cl'], .bool true]) (by simp [results, Tryz.results24, go_sem, e0, e1, e2, e3, e4, e5, e6, e7]) rfl (AnsM.yes HN.out rfl rfl rfl HO'.out (put8_below b2 (Nat.le_add_right _ _) _ _ _ _ _ _ _ _))

set_option maxRecDepth 100000 in
set_option maxHeartbeats 800000 in
theorem impl_wno (am : Option Addr) (nm cm : Nat) (zs : List Int) (q bx cy lo hi : Int) (an : Option Addr) (nn cn : Nat) (ps : List H3) (al : Option Addr) (nl cl : Nat) (qs : List H3) (w : World) (an2 : Option Addr) (nn2 cn2 : Nat) (ps2 : List H3) (hA : RAt w am nm zs an nn ps al nl qs) (h64 : R64 q bx cy lo hi ps qs) (hl2 : ps2.length = nn2) (hA2 : HsAt w an2 ps2) (h642 : ∀ h ∈ ps2, In64 h) (hle : nm + nn + nl ≤ 1048576) (hle2 : nm + nn2 + nl ≤ 1048576) :
    Calls Tryz.prog 25 #[.agg #[.slice am nm cm, .int .i64 q, .int .i64 bx, .int .i64 cy, .int .i64 lo, .int .i64 hi, .slice an nn cn, .slice al nl cl], .agg #[.slice an2 nn2 cn2]] w (AnsM w (rmB zs q bx cy lo hi ps qs && rmB zs q bx cy lo hi ps2 qs) zs q bx cy lo hi ps2 qs) := by
  have bV := below_bx2 (below_bx2 (below_one w (.cells #[.slice am nm cm, .int .i64 q, .int .i64 bx, .int .i64 cy, .int .i64 lo, .int .i64 hi, .slice an nn cn, .slice al nl cl] 28)) (.cells #[.slice an2 nn2 cn2] 26)) (.cells #[.slice none 0 0, .int .i64 0, .int .i64 0, .int .i64 0, .int .i64 0, .int .i64 0, .slice none 0 0, .slice none 0 0] 28)
  have K0 := ((blk_new w #[.slice am nm cm, .int .i64 q, .int .i64 bx, .int .i64 cy, .int .i64 lo, .int .i64 hi, .slice an nn cn, .slice al nl cl] 28 rfl).to (below_one _ (.cells #[.slice an2 nn2 cn2] 26))).to (below_one _ (.cells #[.slice none 0 0, .int .i64 0, .int .i64 0, .int .i64 0, .int .i64 0, .int .i64 0, .slice none 0 0, .slice none 0 0] 28))
  have J0 := (blk_new (w.alloc (.cells #[.slice am nm cm, .int .i64 q, .int .i64 bx, .int .i64 cy, .int .i64 lo, .int .i64 hi, .slice an nn cn, .slice al nl cl] 28)) #[.slice an2 nn2 cn2] 26 (b := w.heap.size + 1) (by simp)).to (below_one _ (.cells #[.slice none 0 0, .int .i64 0, .int .i64 0, .int .i64 0, .int .i64 0, .int .i64 0, .slice none 0 0, .slice none 0 0] 28))
  have K1 := blk_new ((w.alloc (.cells #[.slice am nm cm, .int .i64 q, .int .i64 bx, .int .i64 cy, .int .i64 lo, .int .i64 hi, .slice an nn cn, .slice al nl cl] 28)).alloc (.cells #[.slice an2 nn2 cn2] 26)) #[.slice none 0 0, .int .i64 0, .int .i64 0, .int .i64 0, .int .i64 0, .int .i64 0, .slice none 0 0, .slice none 0 0] 28 (b := w.heap.size + 1 + 1) (by simp)
  have HR := Lib.hid (fun V (h : Below w.heap.size w V) => impl_room am nm cm zs q bx cy lo hi an nn cn ps al nl cl qs V _ rfl (hA.below h) h64 hle)
  have HI := Lib.hid (fun V (h : Below w.heap.size w V) => impl_rio am nm cm zs q bx cy lo hi an2 nn2 cn2 ps2 al nl cl qs V _ rfl ⟨hA.lm, hl2, hA.ll, hA.hm.below h, hA2.below h, hA.hl.below h⟩ ⟨h64.q, h64.bx, h64.cy, h64.lo, h64.hi, h642, h64.qs⟩ hle2)
  clear hA h64 hl2 hA2 h642
  have k0 := K0.c8_0
  have k1 := K0.c8_1
  have k2 := K0.c8_2
  have k3 := K0.c8_3
  have k4 := K0.c8_4
  have k5 := K0.c8_5
  have k6 := K0.c8_6
  have k7 := K0.c8_7
  go_enter Tryz.func25, Tryz.ntmps25
  go_wp2_with fail
  generalize (((w.alloc (.cells #[.slice am nm cm, .int .i64 q, .int .i64 bx, .int .i64 cy, .int .i64 lo, .int .i64 hi, .slice an nn cn, .slice al nl cl] 28)).alloc (.cells #[.slice an2 nn2 cn2] 26)).alloc (.cells #[.slice none 0 0, .int .i64 0, .int .i64 0, .int .i64 0, .int .i64 0, .int .i64 0, .slice none 0 0, .slice none 0 0] 28)) = V at *
  refine (HR.out _ bV).mono ?_
  rintro e w1 ⟨rfl, bl1⟩
  have b1 := below_to bV bl1
  have L0 := K0.to bl1
  have L1 := K1.to bl1
  have j0 := J0.to bl1
  clear bV bl1 k0 k1 k2 k3 k4 k5 k6 k7 K0 K1 J0 HR
  generalize rmB zs q bx cy lo hi ps qs = r1 at *
  generalize rmB zs q bx cy lo hi ps2 qs = r2 at *
  cases r1 with
  | false =>
    have f0 := L1.free 0
    have c0 := L1.c8_0
    have f1 := L1.free 1
    have c1 := L1.c8_1
    have f2 := L1.free 2
    have c2 := L1.c8_2
    have f3 := L1.free 3
    have c3 := L1.c8_3
    have f4 := L1.free 4
    have c4 := L1.c8_4
    have f5 := L1.free 5
    have c5 := L1.c8_5
    have f6 := L1.free 6
    have c6 := L1.c8_6
    have f7 := L1.free 7
    have c7 := L1.c8_7
    go_wp2_with fail
    clear f0 f1 f2 f3 f4 f5 f6 f7 c0 c1 c2 c3 c4 c5 c6 c7
    obtain hz : Blk (put8 w1 (w.heap.size + 1 + 1) (.slice none 0 0) (.int .i64 0) (.int .i64 0) (.int .i64 0) (.int .i64 0) (.int .i64 0) (.slice none 0 0) (.slice none 0 0)) _ _ _ := put8_blk L1 _ _ _ _ _ _ _ _
    have e0 := hz.c8_0
    have e1 := hz.c8_1
    have e2 := hz.c8_2
    have e3 := hz.c8_3
    have e4 := hz.c8_4
    have e5 := hz.c8_5
    have e6 := hz.c8_6
    have e7 := hz.c8_7
    unfold put8 at e0 e1 e2 e3 e4 e5 e6 e7
    exact bodyPost_ret (v := .tuple #[.agg #[.slice none 0 0, .int .i64 0, .int .i64 0, .int .i64 0, .int .i64 0, .int .i64 0, .slice none 0 0, .slice none 0 0], .bool false]) (by simp [results, Tryz.results25, go_sem, e0, e1, e2, e3, e4, e5, e6, e7]) rfl (AnsM.no (by simp) (put8_below b1 (by omega) _ _ _ _ _ _ _ _))
  | true =>
    have N0 := L0.s8_6 (.slice an2 nn2 cn2)
    have N1 := blk_far L1 (p := ⟨w.heap.size, 6, none⟩) (.slice an2 nn2 cn2) (by simp only; omega)
    have bX := b1.setCell (p := ⟨w.heap.size, 6, none⟩) (Nat.le_refl _) (.slice an2 nn2 cn2)
    have f6 := L0.free 6
    have c6 := L0.c8_6
    have j1 : w1.cell? ⟨w.heap.size + 1, 0, none⟩ = some (.slice an2 nn2 cn2) := j0.cell0 (i := 0) rfl
    have k0 := N0.c8_0
    have k1 := N0.c8_1
    have k2 := N0.c8_2
    have k3 := N0.c8_3
    have k4 := N0.c8_4
    have k5 := N0.c8_5
    have k6 := N0.c8_6
    have k7 := N0.c8_7
    go_wp2_with fail
    clear f6 c6 j0 j1 k0 k1 k2 k3 k4 k5 k6 k7 L0 L1 b1
    generalize w1.setCell ⟨w.heap.size, 6, none⟩ (.slice an2 nn2 cn2) = X at *
    have lX := N1.lt
    refine (HI.out _ bX).mono ?_
    rintro e w2 (⟨hb, rfl, bl2⟩ | ⟨hb, am', cm', an', cn', al', cl', rfl, ho, bl2⟩)
    · have b2 := below_to bX bl2
      have M1 := N1.to bl2
      have HN := Lib.hid (show (true && r2) = false by rw [hb]; rfl)
      clear hb
      have f0 := M1.free 0
      have c0 := M1.c8_0
      have f1 := M1.free 1
      have c1 := M1.c8_1
      have f2 := M1.free 2
      have c2 := M1.c8_2
      have f3 := M1.free 3
      have c3 := M1.c8_3
      have f4 := M1.free 4
      have c4 := M1.c8_4
      have f5 := M1.free 5
      have c5 := M1.c8_5
      have f6 := M1.free 6
      have c6 := M1.c8_6
      have f7 := M1.free 7
      have c7 := M1.c8_7
      go_wp2_with fail
      clear f0 f1 f2 f3 f4 f5 f6 f7 c0 c1 c2 c3 c4 c5 c6 c7
      obtain hz : Blk (put8 w2 (w.heap.size + 1 + 1) (.slice none 0 0) (.int .i64 0) (.int .i64 0) (.int .i64 0) (.int .i64 0) (.int .i64 0) (.slice none 0 0) (.slice none 0 0)) _ _ _ := put8_blk M1 _ _ _ _ _ _ _ _
      have e0 := hz.c8_0
      have e1 := hz.c8_1
      have e2 := hz.c8_2
      have e3 := hz.c8_3
      have e4 := hz.c8_4
      have e5 := hz.c8_5
      have e6 := hz.c8_6
      have e7 := hz.c8_7
      unfold put8 at e0 e1 e2 e3 e4 e5 e6 e7
      exact bodyPost_ret (v := .tuple #[.agg #[.slice none 0 0, .int .i64 0, .int .i64 0, .int .i64 0, .int .i64 0, .int .i64 0, .slice none 0 0, .slice none 0 0], .bool false]) (by simp [results, Tryz.results25, go_sem, e0, e1, e2, e3, e4, e5, e6, e7]) rfl (AnsM.no HN.out (put8_below b2 (by omega) _ _ _ _ _ _ _ _))
    · have b2 := below_to bX bl2
      have M1 := N1.to bl2
      have HN := Lib.hid (show (true && r2) = true by rw [hb]; rfl)
      have zX := bX.size
      have HO : ROwn (put8 w2 (w.heap.size + 1 + 1) (.slice am' zs.length cm') (.int .i64 q) (.int .i64 bx) (.int .i64 cy) (.int .i64 lo) (.int .i64 hi) (.slice an' ps2.length cn') (.slice al' qs.length cl')) w.heap.size am' zs.length cm' zs an' ps2.length cn' ps2 al' qs.length cl' qs :=
        ⟨own_base (put8_own ho.om lX _ _ _ _ _ _ _ _) (by omega), own_base (put8_own ho.on lX _ _ _ _ _ _ _ _) (by omega), own_base (put8_own ho.ol lX _ _ _ _ _ _ _ _) (by omega), ho.d1, ho.d2, ho.d3⟩
      have HO' := Lib.hid HO
      clear hb HO ho
      have f0 := M1.free 0
      have c0 := M1.c8_0
      have f1 := M1.free 1
      have c1 := M1.c8_1
      have f2 := M1.free 2
      have c2 := M1.c8_2
      have f3 := M1.free 3
      have c3 := M1.c8_3
      have f4 := M1.free 4
      have c4 := M1.c8_4
      have f5 := M1.free 5
      have c5 := M1.c8_5
      have f6 := M1.free 6
      have c6 := M1.c8_6
      have f7 := M1.free 7
      have c7 := M1.c8_7
      go_wp2_with fail
      clear f0 f1 f2 f3 f4 f5 f6 f7 c0 c1 c2 c3 c4 c5 c6 c7
      obtain hz : Blk (put8 w2 (w.heap.size + 1 + 1) (.slice am' zs.length cm') (.int .i64 q) (.int .i64 bx) (.int .i64 cy) (.int .i64 lo) (.int .i64 hi) (.slice an' ps2.length cn') (.slice al' qs.length cl')) _ _ _ := put8_blk M1 _ _ _ _ _ _ _ _
      have e0 := hz.c8_0
      have e1 := hz.c8_1
      have e2 := hz.c8_2
      have e3 := hz.c8_3
      have e4 := hz.c8_4
      have e5 := hz.c8_5
      have e6 := hz.c8_6
      have e7 := hz.c8_7
      unfold put8 at e0 e1 e2 e3 e4 e5 e6 e7
      exact bodyPost_ret (v := .tuple #[.agg #[.slice am' zs.length cm', .int .i64 q, .int .i64 bx, .int .i64 cy, .int .i64 lo, .int .i64 hi, .slice an' ps2.length cn', .slice al' qs.length cl'], .bool true]) (by simp [results, Tryz.results25, go_sem, e0, e1, e2, e3, e4, e5, e6, e7]) rfl (AnsM.yes HN.out rfl rfl rfl HO'.out (put8_below b2 (by omega) _ _ _ _ _ _ _ _))
end Go.Proofs.YtdjjncofahnaaaaGreat
