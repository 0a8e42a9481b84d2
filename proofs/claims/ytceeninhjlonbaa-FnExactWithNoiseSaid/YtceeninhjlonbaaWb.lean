/- The model's copy of a room, over the translation. -/
import Derived.Test.YtceeninhjlonbaaWa
namespace Go.Proofs.Ytceeninhjlonbaa
open Go.RowKit
open Geo (H3)

set_option maxRecDepth 100000 in
set_option maxHeartbeats 3200000 in
theorem spec_cpy (am : Option Addr) (nm cm : Nat) (zs : List Int) (q bx cy lo hi : Int) (an : Option Addr) (nn cn : Nat) (ps : List H3) (al : Option Addr) (nl cl : Nat) (qs : List H3) (w : World) (hA : RAt w am nm zs an nn ps al nl qs) (hnl : RNil am nm cm an nn cn al nl cl) (hle : nm + nn + nl ≤ 1048576) :
    Calls Try.prog 68 #[.agg #[.slice am nm cm, .int .i64 q, .int .i64 bx, .int .i64 cy, .int .i64 lo, .int .i64 hi, .slice an nn cn, .slice al nl cl]] w (GivesRm w nm zs q bx cy lo hi nn ps nl qs) := by
  obtain ⟨i0, hi0, hz0, hz1, hz2⟩ := info_parts Try.info3i
  have bV := below_bx2 (below_one w (.cells #[.slice am nm cm, .int .i64 q, .int .i64 bx, .int .i64 cy, .int .i64 lo, .int .i64 hi, .slice an nn cn, .slice al nl cl] 39)) (.cells #[.slice none 0 0, .int .i64 0, .int .i64 0, .int .i64 0, .int .i64 0, .int .i64 0, .slice none 0 0, .slice none 0 0] 39)
  have K0 := (blk_new w #[.slice am nm cm, .int .i64 q, .int .i64 bx, .int .i64 cy, .int .i64 lo, .int .i64 hi, .slice an nn cn, .slice al nl cl] 39 (b := w.heap.size) (by simp)).to (below_one _ (.cells #[.slice none 0 0, .int .i64 0, .int .i64 0, .int .i64 0, .int .i64 0, .int .i64 0, .slice none 0 0, .slice none 0 0] 39))
  have K1 := blk_new (w.alloc (.cells #[.slice am nm cm, .int .i64 q, .int .i64 bx, .int .i64 cy, .int .i64 lo, .int .i64 hi, .slice an nn cn, .slice al nl cl] 39)) #[.slice none 0 0, .int .i64 0, .int .i64 0, .int .i64 0, .int .i64 0, .int .i64 0, .slice none 0 0, .slice none 0 0] 39 (b := w.heap.size + 1) (by simp)
  have H2 := Lib.hid (fun V (h : Below w.heap.size w V) => spec_lrg an nn cn ps V hA.ln (by omega) hnl.n (hA.hn.below h))
  have H3' := Lib.hid (fun V (h : Below w.heap.size w V) => spec_lrg al nl cl qs V hA.ll (by omega) hnl.l (hA.hl.below h))
  have HM := Lib.hid hA.hm
  have HML := Lib.hid hA.lm
  have HNIL := Lib.hid hnl.m
  clear hA hnl
  have c0_0 := K0.c8_0
  have c0_1 := K0.c8_1
  have c0_2 := K0.c8_2
  have c0_3 := K0.c8_3
  have c0_4 := K0.c8_4
  have c0_5 := K0.c8_5
  have c0_6 := K0.c8_6
  have c0_7 := K0.c8_7
  go_enter Try.func68, Try.ntmps68
  go_upto_region 1 with fail
  clear c0_0 c0_1 c0_2 c0_3 c0_4 c0_5 c0_6 c0_7
  generalize ((w.alloc (.cells #[.slice am nm cm, .int .i64 q, .int .i64 bx, .int .i64 cy, .int .i64 lo, .int .i64 hi, .slice an nn cn, .slice al nl cl] 39)).alloc (.cells #[.slice none 0 0, .int .i64 0, .int .i64 0, .int .i64 0, .int .i64 0, .int .i64 0, .slice none 0 0, .slice none 0 0] 39)) = w2 at *
  have lq1 := K1.lt
  have k0 := K0.c8_0
  have f0 := K0.free 0
  cases am with
  | none =>
    obtain ⟨rfl, rfl⟩ := HNIL.out rfl
    obtain rfl := List.eq_nil_of_length_eq_zero HML.out
    have q2 := cell_to k0 (below_one w2 (.cells #[] 3))
    have f2 := ((below_one w2 (.cells #[] 3)).frozen K0.lt).trans f0
    have HX0 := own_far (p := ⟨w.heap.size, 0, none⟩) (own1_empty (B := w2.heap.size) w2 (b := w2.heap.size) rfl (Nat.le_refl _)) (by simp only; omega) (.slice (some ⟨w2.heap.size, 0, none⟩) 0 0)
    have HX1 := Lib.hid HX0
    have N0 := (K0.to (below_one w2 (.cells #[] 3))).s8_0 (.slice (some ⟨w2.heap.size, 0, none⟩) 0 0)
    have N1 := blk_far (K1.to (below_one w2 (.cells #[] 3))) (p := ⟨w.heap.size, 0, none⟩) (.slice (some ⟨w2.heap.size, 0, none⟩) 0 0) (by simp)
    have bX := (below_bx2 bV (.cells #[] 3)).setCell (p := ⟨w.heap.size, 0, none⟩) (Nat.le_refl _) (.slice (some ⟨w2.heap.size, 0, none⟩) 0 0)
    have sz2 : w2.heap.size ≤ ((w2.alloc (.cells #[] 3)).setCell ⟨w.heap.size, 0, none⟩ (.slice (some ⟨w2.heap.size, 0, none⟩) 0 0)).heap.size := by simp
    have HL1 := Lib.hid (fun p (hp : (Value.slice (some ⟨w2.heap.size, 0, none⟩) 0 0).ownBlock = some p) => (own_block_lt HX0 hp).2)
    have k6 := N0.c8_6
    clear HX0 K0 K1
    go_wp2_with fail
    clear k6 q2 f2 k0 f0
    generalize (w2.alloc (.cells #[] 3)).setCell ⟨w.heap.size, 0, none⟩ (.slice (some ⟨w2.heap.size, 0, none⟩) 0 0) = X1 at *
    have sz1 := bX.size
    refine (H2.out _ bX).mono ?_
    rintro e w3 ⟨an', cn', rfl, ho2, bl3⟩
    clear H2
    have z3 := bl3.size
    have b3 := below_to bX bl3
    have M0 := N0.to bl3
    have M1 := N1.to bl3
    have HY1 := Lib.hid (own_far (own_below HX1.out bl3) (p := ⟨w.heap.size, 6, none⟩) (by simp only; omega) (.slice an' nn cn'))
    have HY2 := Lib.hid (own_far ho2 (p := ⟨w.heap.size, 6, none⟩) (by simp only; omega) (.slice an' nn cn'))
    have HL2 := Lib.hid (fun p (hp : (Value.slice an' nn cn').ownBlock = some p) => own_block_lt ho2 hp)
    have bY := b3.setCell (p := ⟨w.heap.size, 6, none⟩) (Nat.le_refl _) (.slice an' nn cn')
    have O0 := M0.s8_6 (.slice an' nn cn')
    have O1 := blk_far M1 (p := ⟨w.heap.size, 6, none⟩) (.slice an' nn cn') (by simp)
    have sY : (w3.setCell ⟨w.heap.size, 6, none⟩ (.slice an' nn cn')).heap.size = w3.heap.size := by simp
    have f0 := M0.free 6
    have c0 := M0.c8_6
    have k7 := O0.c8_7
    go_wp2_with fail
    clear f0 c0 k7 M0 M1 N0 N1 ho2 bl3 b3 bX HX1
    generalize w3.setCell ⟨w.heap.size, 6, none⟩ (.slice an' nn cn') = X2 at *
    refine (H3'.out _ bY).mono ?_
    rintro e w4 ⟨al', cl', rfl, ho3, bl4⟩
    clear H3'
    have z4 := bl4.size
    have b4 := below_to bY bl4
    have M0 := O0.to bl4
    have M1 := O1.to bl4
    have HZ1 := Lib.hid (own_far (own_below HY1.out bl4) (p := ⟨w.heap.size, 7, none⟩) (by simp only; omega) (.slice al' nl cl'))
    have HZ2 := Lib.hid (own_far (own_below HY2.out bl4) (p := ⟨w.heap.size, 7, none⟩) (by simp only; omega) (.slice al' nl cl'))
    have HZ3 := Lib.hid (own_far ho3 (p := ⟨w.heap.size, 7, none⟩) (by simp only; omega) (.slice al' nl cl'))
    have HL3 := Lib.hid (fun p (hp : (Value.slice al' nl cl').ownBlock = some p) => (own_block_lt ho3 hp).1)
    have bZ := b4.setCell (p := ⟨w.heap.size, 7, none⟩) (Nat.le_refl _) (.slice al' nl cl')
    have P0 := M0.s8_7 (.slice al' nl cl')
    have P1 := blk_far M1 (p := ⟨w.heap.size, 7, none⟩) (.slice al' nl cl') (by simp)
    have f0 := M0.free 7
    have c0 := M0.c8_7
    generalize hX3 : w4.setCell ⟨w.heap.size, 7, none⟩ (.slice al' nl cl') = X3 at *
    have g0 := P1.free 0
    have d0 := P1.c8_0
    have k0 := P0.c8_0
    have g1 := P1.free 1
    have d1 := P1.c8_1
    have k1 := P0.c8_1
    have g2 := P1.free 2
    have d2 := P1.c8_2
    have k2 := P0.c8_2
    have g3 := P1.free 3
    have d3 := P1.c8_3
    have k3 := P0.c8_3
    have g4 := P1.free 4
    have d4 := P1.c8_4
    have k4 := P0.c8_4
    have g5 := P1.free 5
    have d5 := P1.c8_5
    have k5 := P0.c8_5
    have g6 := P1.free 6
    have d6 := P1.c8_6
    have k6 := P0.c8_6
    have g7 := P1.free 7
    have d7 := P1.c8_7
    have k7 := P0.c8_7
    go_wp2_with fail
    have lX : X3.heap.size = w4.heap.size := by rw [← hX3]; simp
    clear k0 k1 k2 k3 k4 k5 k6 k7 g0 g1 g2 g3 g4 g5 g6 g7 d0 d1 d2 d3 d4 d5 d6 d7
    obtain hz : Blk (put8 X3 (w.heap.size + 1) (.slice (some ⟨w2.heap.size, 0, none⟩) 0 0) (.int .i64 q) (.int .i64 bx) (.int .i64 cy) (.int .i64 lo) (.int .i64 hi) (.slice an' nn cn') (.slice al' nl cl')) _ _ _ := put8_blk P1 _ _ _ _ _ _ _ _
    have e0 := hz.c8_0
    have e1 := hz.c8_1
    have e2 := hz.c8_2
    have e3 := hz.c8_3
    have e4 := hz.c8_4
    have e5 := hz.c8_5
    have e6 := hz.c8_6
    have e7 := hz.c8_7
    unfold put8 at e0 e1 e2 e3 e4 e5 e6 e7
    have HO : ROwn (put8 X3 (w.heap.size + 1) (.slice (some ⟨w2.heap.size, 0, none⟩) 0 0) (.int .i64 q) (.int .i64 bx) (.int .i64 cy) (.int .i64 lo) (.int .i64 hi) (.slice an' nn cn') (.slice al' nl cl')) w.heap.size (some ⟨w2.heap.size, 0, none⟩) 0 0 [] an' nn cn' ps al' nl cl' qs :=
      ⟨own_base (put8_own HZ1.out (by omega) _ _ _ _ _ _ _ _) (by omega), own_base (put8_own HZ2.out (by omega) _ _ _ _ _ _ _ _) (by omega), own_base (put8_own HZ3.out (by omega) _ _ _ _ _ _ _ _) (by omega),
        fun p hp hq => by have := HL1.out p hp; have := (HL2.out p hq).1; omega, fun p hp hq => by have := HL1.out p hp; have := HL3.out p hq; omega, fun p hp hq => by have := (HL2.out p hp).2; have := HL3.out p hq; omega⟩
    exact bodyPost_ret (v := .agg #[.slice (some ⟨w2.heap.size, 0, none⟩) 0 0, .int .i64 q, .int .i64 bx, .int .i64 cy, .int .i64 lo, .int .i64 hi, .slice an' nn cn', .slice al' nl cl']) (by simp [results, Try.results68, go_sem, e0, e1, e2, e3, e4, e5, e6, e7]) rfl ⟨_, _, _, _, _, _, rfl, HO, put8_below bZ (Nat.le_add_right _ _) _ _ _ _ _ _ _ _⟩
  | some ad =>
    have HO := Lib.hid (own1_empty (B := w2.heap.size) w2 rfl (Nat.le_refl _))
    have HC := Lib.hid (is_cells (HM.out.below (below_bx2 bV (.cells #[] 3))))
    have HFL := Lib.hid (show (zs.map (Value.int .i64)).length = nm * 1 by rw [List.length_map, HML.out, Nat.mul_one])
    have q2 := cell_to k0 (below_one w2 (.cells #[] 3))
    have f2 := ((below_one w2 (.cells #[] 3)).frozen K0.lt).trans f0
    have N0' := Lib.hid (K0.to (below_one w2 (.cells #[] 3)))
    have N1' := Lib.hid (K1.to (below_one w2 (.cells #[] 3)))
    go_wp2_with (at_builtin; refine wpList_append_own_at _ rfl _ _ 22 rfl w2.heap.size 3 i0 (.int .i64 0) 1 8 Try.underlying22 hi0 hz0 hz1 hz2 rfl (by decide) (.slice (some ⟨w2.heap.size, 0, none⟩) 0 0) 0 [] rfl HO.out ad nm cm (zs.map (Value.int .i64)) rfl HFL.out HC.out (ints_one _) (by unfold maxLen; omega) (by omega) (by simp) ?_; intro v3 w3' ho3 hg3 hn3 _; have b3 : Below w2.heap.size w2 w3' := (below_one w2 _).grown hg3 (by simp) (fun p hp => own_base_le HO.out hp); rw [Nat.zero_add, List.nil_append] at ho3; obtain ⟨am', cm', e3⟩ := own_slice ho3; subst e3; have hne3 : some w.heap.size ≠ (Value.slice (some ⟨w2.heap.size, 0, none⟩) 0 0).ownBlock := (by simp only [Value.ownBlock, ne_eq, Option.some.injEq]; omega); have hne4 : some (w.heap.size + 1) ≠ (Value.slice (some ⟨w2.heap.size, 0, none⟩) 0 0).ownBlock := (by simp only [Value.ownBlock, ne_eq, Option.some.injEq]; omega); have R0 : Blk w3' w.heap.size _ _ := (hg3.block _ N0'.out.lt hne3).trans N0'.out; have R1 : Blk w3' (w.heap.size + 1) _ _ := (hg3.block _ N1'.out.lt hne4).trans N1'.out; have q3 := R0.c8_0; have f3 := R0.free 0; have k6 := (R0.s8_0 (.slice am' nm cm')).c8_6; have HR0 := Lib.hid R0; have HR1 := Lib.hid R1; have HQ3 := Lib.hid ho3; have HB3 := Lib.hid b3; clear ho3 hg3 hn3 b3 q2 f2 k0 f0 hne3 hne4 R0 R1 K0 K1)
    clear q3 f3 k6
    have N0 := HR0.out.s8_0 (.slice am' nm cm')
    have N1 := blk_far HR1.out (p := ⟨w.heap.size, 0, none⟩) (.slice am' nm cm') (by simp)
    have HX1 := Lib.hid (own_far (p := ⟨w.heap.size, 0, none⟩) HQ3.out (by simp only; omega) (.slice am' nm cm'))
    have bX := (below_to bV HB3.out).setCell (p := ⟨w.heap.size, 0, none⟩) (Nat.le_refl _) (.slice am' nm cm')
    have HL1 := Lib.hid (fun p (hp : (Value.slice am' nm cm').ownBlock = some p) => (own_block_lt HX1.out hp).2)
    have sz2 : w2.heap.size ≤ (w3'.setCell ⟨w.heap.size, 0, none⟩ (.slice am' nm cm')).heap.size := by have := HB3.out.size; simpa using this
    clear HR0 HR1
    generalize w3'.setCell ⟨w.heap.size, 0, none⟩ (.slice am' nm cm') = X1 at *
    have sz1 := bX.size
    refine (H2.out _ bX).mono ?_
    rintro e w3 ⟨an', cn', rfl, ho2, bl3⟩
    clear H2
    have z3 := bl3.size
    have b3 := below_to bX bl3
    have M0 := N0.to bl3
    have M1 := N1.to bl3
    have HY1 := Lib.hid (own_far (own_below HX1.out bl3) (p := ⟨w.heap.size, 6, none⟩) (by simp only; omega) (.slice an' nn cn'))
    have HY2 := Lib.hid (own_far ho2 (p := ⟨w.heap.size, 6, none⟩) (by simp only; omega) (.slice an' nn cn'))
    have HL2 := Lib.hid (fun p (hp : (Value.slice an' nn cn').ownBlock = some p) => own_block_lt ho2 hp)
    have bY := b3.setCell (p := ⟨w.heap.size, 6, none⟩) (Nat.le_refl _) (.slice an' nn cn')
    have O0 := M0.s8_6 (.slice an' nn cn')
    have O1 := blk_far M1 (p := ⟨w.heap.size, 6, none⟩) (.slice an' nn cn') (by simp)
    have sY : (w3.setCell ⟨w.heap.size, 6, none⟩ (.slice an' nn cn')).heap.size = w3.heap.size := by simp
    have f0 := M0.free 6
    have c0 := M0.c8_6
    have k7 := O0.c8_7
    go_wp2_with fail
    clear f0 c0 k7 M0 M1 N0 N1 ho2 bl3 b3 bX HX1
    generalize w3.setCell ⟨w.heap.size, 6, none⟩ (.slice an' nn cn') = X2 at *
    refine (H3'.out _ bY).mono ?_
    rintro e w4 ⟨al', cl', rfl, ho3, bl4⟩
    clear H3'
    have z4 := bl4.size
    have b4 := below_to bY bl4
    have M0 := O0.to bl4
    have M1 := O1.to bl4
    have HZ1 := Lib.hid (own_far (own_below HY1.out bl4) (p := ⟨w.heap.size, 7, none⟩) (by simp only; omega) (.slice al' nl cl'))
    have HZ2 := Lib.hid (own_far (own_below HY2.out bl4) (p := ⟨w.heap.size, 7, none⟩) (by simp only; omega) (.slice al' nl cl'))
    have HZ3 := Lib.hid (own_far ho3 (p := ⟨w.heap.size, 7, none⟩) (by simp only; omega) (.slice al' nl cl'))
    have HL3 := Lib.hid (fun p (hp : (Value.slice al' nl cl').ownBlock = some p) => (own_block_lt ho3 hp).1)
    have bZ := b4.setCell (p := ⟨w.heap.size, 7, none⟩) (Nat.le_refl _) (.slice al' nl cl')
    have P0 := M0.s8_7 (.slice al' nl cl')
    have P1 := blk_far M1 (p := ⟨w.heap.size, 7, none⟩) (.slice al' nl cl') (by simp)
    have f0 := M0.free 7
    have c0 := M0.c8_7
    generalize hX3 : w4.setCell ⟨w.heap.size, 7, none⟩ (.slice al' nl cl') = X3 at *
    have g0 := P1.free 0
    have d0 := P1.c8_0
    have k0 := P0.c8_0
    have g1 := P1.free 1
    have d1 := P1.c8_1
    have k1 := P0.c8_1
    have g2 := P1.free 2
    have d2 := P1.c8_2
    have k2 := P0.c8_2
    have g3 := P1.free 3
    have d3 := P1.c8_3
    have k3 := P0.c8_3
    have g4 := P1.free 4
    have d4 := P1.c8_4
    have k4 := P0.c8_4
    have g5 := P1.free 5
    have d5 := P1.c8_5
    have k5 := P0.c8_5
    have g6 := P1.free 6
    have d6 := P1.c8_6
    have k6 := P0.c8_6
    have g7 := P1.free 7
    have d7 := P1.c8_7
    have k7 := P0.c8_7
    go_wp2_with fail
    have lX : X3.heap.size = w4.heap.size := by rw [← hX3]; simp
    clear k0 k1 k2 k3 k4 k5 k6 k7 g0 g1 g2 g3 g4 g5 g6 g7 d0 d1 d2 d3 d4 d5 d6 d7
    obtain hz : Blk (put8 X3 (w.heap.size + 1) (.slice am' nm cm') (.int .i64 q) (.int .i64 bx) (.int .i64 cy) (.int .i64 lo) (.int .i64 hi) (.slice an' nn cn') (.slice al' nl cl')) _ _ _ := put8_blk P1 _ _ _ _ _ _ _ _
    have e0 := hz.c8_0
    have e1 := hz.c8_1
    have e2 := hz.c8_2
    have e3 := hz.c8_3
    have e4 := hz.c8_4
    have e5 := hz.c8_5
    have e6 := hz.c8_6
    have e7 := hz.c8_7
    unfold put8 at e0 e1 e2 e3 e4 e5 e6 e7
    have HO : ROwn (put8 X3 (w.heap.size + 1) (.slice am' nm cm') (.int .i64 q) (.int .i64 bx) (.int .i64 cy) (.int .i64 lo) (.int .i64 hi) (.slice an' nn cn') (.slice al' nl cl')) w.heap.size am' nm cm' zs an' nn cn' ps al' nl cl' qs :=
      ⟨own_base (put8_own HZ1.out (by omega) _ _ _ _ _ _ _ _) (by omega), own_base (put8_own HZ2.out (by omega) _ _ _ _ _ _ _ _) (by omega), own_base (put8_own HZ3.out (by omega) _ _ _ _ _ _ _ _) (by omega),
        fun p hp hq => by have := HL1.out p hp; have := (HL2.out p hq).1; omega, fun p hp hq => by have := HL1.out p hp; have := HL3.out p hq; omega, fun p hp hq => by have := (HL2.out p hp).2; have := HL3.out p hq; omega⟩
    exact bodyPost_ret (v := .agg #[.slice am' nm cm', .int .i64 q, .int .i64 bx, .int .i64 cy, .int .i64 lo, .int .i64 hi, .slice an' nn cn', .slice al' nl cl']) (by simp [results, Try.results68, go_sem, e0, e1, e2, e3, e4, e5, e6, e7]) rfl ⟨_, _, _, _, _, _, rfl, HO, put8_below bZ (Nat.le_add_right _ _) _ _ _ _ _ _ _ _⟩
end Go.Proofs.Ytceeninhjlonbaa
