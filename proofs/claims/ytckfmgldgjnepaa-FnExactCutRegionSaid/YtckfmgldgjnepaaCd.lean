/- The walk of the law of CutRegion. -/
import Derived.Test.YtckfmgldgjnepaaCc
import Derived.Test.YtckfmgldgjnepaaMf
namespace Go.Proofs.Ytckfmgldgjnepaa
open Go.RowKit
open Geo (H3)

theorem box_row_ne {W : World} {g B n cp : Nat} {ao : Option Addr} {v : Value} {xs : List Value} (h : W.heap[g]? = some (.cells #[v] 30 (0, 0))) (ho : W.ownsRow B 34 3 (.slice ao n cp) n xs) : some g ≠ (Value.slice ao n cp).ownBlock := by
  intro e
  rcases ho.2 with ⟨h2, _⟩ | ⟨g', cap', cur, hv, _, hh, _⟩
  · rw [h2] at e; simp [Value.ownBlock] at e
  · rw [hv] at e
    simp [Value.ownBlock] at e
    subst e
    rw [h] at hh
    simp at hh
theorem cutA_len {ps : List H3} {h : H3} : (cutA ps h).length ≤ 40 := by
  unfold cutA
  split
  · rename_i k
    obtain ⟨k, n⟩ := k
    unfold cutB at k
    simp only [Bool.and_eq_true, decide_eq_true_eq] at k
    have := reg_more (ks := [h]) k.1.1 n
    simp at this
    omega
  · simp
set_option maxRecDepth 100000 in
set_option maxHeartbeats 6400000 in
theorem law_cut (a : Option Addr) (n ca : Nat) (ps : List H3) (ha hb hc : Int) (wa : (Lit.int .i64 ha).wf = true) (wb : (Lit.int .i64 hb).wf = true) (wc' : (Lit.int .i64 hc).wf = true) (w : World) (hl : ps.length = n) (hn : n ≤ maxLen) (h64 : ∀ h ∈ ps, In64 h) (hA : HsAt w a ps) (hle : (n : Int) ≤ 1048576) :
    Calls Try.prog 3 #[.agg #[.slice a n ca], .agg #[.int .i64 ha, .int .i64 hb, .int .i64 hc]] w fun e w' => e = .returned (.bool true) ∧ Below w.heap.size w w' := by
  have k64 : In64 ⟨ha, hb, hc⟩ := ⟨bounds_i64 wa, bounds_i64 wb, bounds_i64 wc'⟩
  have HTA := Lib.hid (fun V (h : Below w.heap.size w V) => to_region2 a n ca ps V hl (by omega) (hA.below h))
  have HTH := Lib.hid (fun V => to_half ha hb hc V)
  have HEA := Lib.hid (fun V a1 a2 c1 c2 (h1 : HsAt V a1 ps) (h2 : HsAt V a2 ps) => eq_region a1 a2 n c1 c2 ps V hl (by omega) h1 h2)
  have HZA := Lib.hid (fun V => sz_region a n ca V hn 1048576 (by omega) (by omega) (1048576 - n) (by rw [if_pos (by omega)]))
  have HS := Lib.hid (fun V a1 c1 (h0 : a1 = none → n = 0 ∧ c1 = 0) (h1 : HsAt V a1 ps) => spec_cut a1 n c1 ps ha hb hc V hl (by omega) h64 k64 h0 h1)
  have HI := Lib.hid (fun V a1 c1 (h1 : HsAt V a1 ps) => impl_cut a1 n c1 ps ha hb hc V hl (by omega) h64 k64 h1)
  have hL : (cutA ps ⟨ha, hb, hc⟩).length ≤ 40 := cutA_len
  have HER := Lib.hid (fun V a1 a2 c1 c2 (h1 : HsAt V a1 (cutA ps ⟨ha, hb, hc⟩)) (h2 : HsAt V a2 (cutA ps ⟨ha, hb, hc⟩)) => eq_region a1 a2 (cutA ps ⟨ha, hb, hc⟩).length c1 c2 (cutA ps ⟨ha, hb, hc⟩) V rfl (by omega) h1 h2)
  unfold AnsR at HS HI
  generalize cutA ps ⟨ha, hb, hc⟩ = L at *
  generalize cutB ps ⟨ha, hb, hc⟩ = R at *
  generalize L.length = len at *
  clear hn hA hl h64 k64 wa wb wc'
  go_enter Try.func3, Try.ntmps3
  go_wp2_with fail
  have b0 := below_bx2 (below_one w (.cells #[.slice a n ca] 24)) (.cells #[.int .i64 ha, .int .i64 hb, .int .i64 hc] 26)
  have q0 := cell_to (show (w.alloc (.cells #[.slice a n ca] 24)).cell? ⟨w.heap.size, 0, none⟩ = some (.slice a n ca) by simp) (below_one _ (.cells #[.int .i64 ha, .int .i64 hb, .int .i64 hc] 26))
  have r0 := tri_new (w.alloc (.cells #[.slice a n ca] 24)) (.int .i64 ha) (.int .i64 hb) (.int .i64 hc) 26
  rw [show (w.alloc (.cells #[.slice a n ca] 24)).heap.size = w.heap.size + 1 by simp] at r0
  generalize (w.alloc (.cells #[.slice a n ca] 24)).alloc (.cells #[.int .i64 ha, .int .i64 hb, .int .i64 hc] 26) = V at *
  refine (HZA.out _).mono ?_
  rintro e w1 ⟨rfl, bl1⟩
  have b1 := below_to b0 bl1
  have p0 := cell_to q0 bl1
  have r1 := r0.to bl1
  obtain ⟨y1, y2, y3⟩ := r1
  simp only [Nat.zero_add] at y1 y2 y3
  clear bl1 b0 q0 r0
  have zV : w.heap.size + 1 < w1.heap.size := block_lt_of_cell y1
  have hz1 : ¬ ((1048576 - (n : Int)) < 0) := by omega
  go_wp2_with fail
  go_cut [6, 7] from 21 to 28 (fun s6 s7 wx => BoxR w1 L len s6 wx ∧ s7 = .bool R)
  case first =>
    go_region_held3 (fun w' => w'.cell? ⟨w.heap.size, 0, none⟩ = some (.slice a n ca) ∧ w'.cell? ⟨w.heap.size + 1, 0, none⟩ = some (.int .i64 ha) ∧ w'.cell? ⟨w.heap.size + 1, 1, none⟩ = some (.int .i64 hb) ∧ w'.cell? ⟨w.heap.size + 1, 2, none⟩ = some (.int .i64 hc))
      ((refine fourc p0 y1 y2 y3 ?_; repeat (first | exact Below.refl _ _ | refine Below.setCell ?_ (by first | (simp; done) | (simp; omega)) _ | refine below_bx2 ?_ _ | refine below_drw ?_ | refine below_to ?_ (by assumption))))
      (first
        | (go_at_call 11; (with_reducible refine (HTA.out _ ?_).mono ?_); (focus (repeat (first | exact b1 | refine below_bx2 ?_ _ | refine below_drw ?_ | refine below_to ?_ (by assumption)))); rintro e wA ⟨aA, cA, rfl, hoA, blA⟩; have hsA := blA.size; (try simp at hsA))
        | (go_at_call 12; (with_reducible refine (HTH.out _).mono ?_); rintro e wB ⟨rfl, blB⟩; have hsB := blB.size; (try simp at hsB))
        | (go_at_call 10; (with_reducible refine (HS.out _ _ _ (own_nil hoA) ?_).mono ?_); (focus ((refine (own_hs hoA).below ?_); repeat (first | exact Below.refl _ _ | refine below_bx2 ?_ _ | refine below_drw ?_ | refine below_to ?_ (by assumption)))); rintro e wC ⟨aC, cC, rfl, hoC, blC⟩; obtain ⟨hcC, hfC⟩ := bcl3 blC; obtain ⟨hcD, hfD⟩ := bcl3 (blx_next (Y := wC) blB (by refine below_to ?_ blC; repeat (first | exact Below.refl _ _ | refine below_bx2 ?_ _ | refine below_drw ?_))); obtain ⟨hcE, hfE⟩ := bcl3 (blx_next (Y := wC) blA (by refine below_to ?_ blC; repeat (first | exact Below.refl _ _ | refine below_bx2 ?_ _ | refine below_drw ?_ | refine below_to ?_ blB))); have hsC := blC.size; (try simp at hsC)))
    all_goals
      go_wp2_with fail
      go_meet
      refine ⟨?_, rfl⟩
      first
        | exact BoxR.last hoC (by first | exact Nat.le_refl _ | omega | (simp; omega) | (simp; done)) (by repeat (first | exact Below.refl _ _ | refine below_bx2 ?_ _ | refine below_drw ?_ | refine below_to ?_ (by assumption)))
        | exact BoxR.early (U := wB) (x := .slice none 0 0) blC (by first | exact Nat.le_refl _ | omega | (simp; omega) | (simp; done)) hoC (by first | exact Nat.le_refl _ | omega | (simp; omega) | (simp; done)) (by repeat (first | exact Below.refl _ _ | refine below_bx2 ?_ _ | refine below_drw ?_ | refine below_to ?_ (by assumption)))
        | exact BoxR.early (U := wA) (x := .slice none 0 0) (by repeat (first | exact Below.refl _ _ | refine below_bx2 ?_ _ | refine below_drw ?_ | refine below_to ?_ (by assumption))) (by first | exact Nat.le_refl _ | omega | (simp; omega) | (simp; done)) hoC (by first | exact Nat.le_refl _ | omega | (simp; omega) | (simp; done)) (by repeat (first | exact Below.refl _ _ | refine below_bx2 ?_ _ | refine below_drw ?_ | refine below_to ?_ (by assumption)))
        | exact BoxR.early (U := w1) (x := .slice none 0 0) (by repeat (first | exact Below.refl _ _ | refine below_bx2 ?_ _ | refine below_drw ?_ | refine below_to ?_ (by assumption))) (by first | exact Nat.le_refl _ | omega | (simp; omega) | (simp; done)) hoC (by first | exact Nat.le_refl _ | omega | (simp; omega) | (simp; done)) (by repeat (first | exact Below.refl _ _ | refine below_bx2 ?_ _ | refine below_drw ?_ | refine below_to ?_ (by assumption)))
  case rest =>
    obtain ⟨⟨g6, aw, cw, rfl, hgg6, hhg6, hog6, hbg6⟩, rfl⟩ := hcut
    have x6 : wc.cell? ⟨g6, 0, none⟩ = some (.slice aw len cw) := cell_of_row _ _ 0 _ _ _ hhg6
    have lg6 := lt_of_block hhg6
    have OW := Lib.hid hog6
    have xw := Lib.hid (fun p (h : (Value.slice aw len cw).ownBlock = some p) => own_block_lt OW.out h)
    have zzg6 := hbg6.size
    have neg6 := Lib.hid (box_row_ne hhg6 hog6)
    have p0_1 := cell_to p0 hbg6
    have y1_2 := cell_to y1 hbg6
    have y2_3 := cell_to y2 hbg6
    have y3_4 := cell_to y3 hbg6
    have b_5 := below_to b1 hbg6
    clear p0 y1 y2 y3 b1
    clear hhg6 hog6 hbg6
    go_wp2_with fail
    refine (HTA.out _ b_5).mono ?_
    rintro e w4 ⟨ax, cx, rfl, how4, blw4⟩
    have zzw4 := blw4.size
    have KX := Lib.hid (own_below how4 (below_one w4 (.cells #[.slice ax n cx] 30)))
    have xx := Lib.hid (fun p (h : (Value.slice ax n cx).ownBlock = some p) => own_block_lt how4 h)
    obtain ⟨x8, _⟩ := box_one (U := w4) rfl (.slice ax n cx) 30
    have bxw4 := below_to blw4 (below_one w4 (.cells #[.slice ax n cx] 30))
    have zyw4 : w4.heap.size < (w4.alloc (.cells #[.slice ax n cx] 30)).heap.size ∧ (w4.alloc (.cells #[.slice ax n cx] 30)).heap.size ≤ w4.heap.size + 1 := by simp
    have p0_6 := cell_to p0_1 bxw4
    have y1_7 := cell_to y1_2 bxw4
    have y2_8 := cell_to y2_3 bxw4
    have y3_9 := cell_to y3_4 bxw4
    have x6_10 := cell_to x6 bxw4
    have OW_11 := Lib.hid (own_below OW.out bxw4)
    have b_12 := below_to b_5 bxw4
    clear p0_1 y1_2 y2_3 y3_4 x6 OW b_5
    clear how4 blw4 bxw4
    go_wp2_with fail
    generalize w4.alloc (.cells #[.slice ax n cx] 30) = X at *
    obtain ⟨bx, hbx⟩ : ∃ b, w4.heap.size = b := ⟨_, rfl⟩
    rw [hbx] at x8 zyw4 zzw4 xx ⊢
    clear hbx
    go_cut [9, 10] from 31 to 37 (fun s6 s7 wx => BoxR X L len s6 wx ∧ s7 = .bool R)
    case first =>
      go_region_held3 (fun w' => w'.cell? ⟨bx, 0, none⟩ = some (.slice ax n cx) ∧ w'.cell? ⟨w.heap.size + 1, 0, none⟩ = some (.int .i64 ha) ∧ w'.cell? ⟨w.heap.size + 1, 1, none⟩ = some (.int .i64 hb) ∧ w'.cell? ⟨w.heap.size + 1, 2, none⟩ = some (.int .i64 hc))
        ((refine fourc x8 y1_7 y2_8 y3_9 ?_; repeat (first | exact Below.refl _ _ | refine Below.setCell ?_ (by first | (simp; done) | (simp; omega)) _ | refine below_bx2 ?_ _ | refine below_drw ?_ | refine below_to ?_ (by assumption))))
        (first
          | (go_at_call 12; (with_reducible refine (HTH.out _).mono ?_); rintro e wB ⟨rfl, blB⟩; have hsB := blB.size; (try simp at hsB))
          | (go_at_call 13; (with_reducible refine (HI.out _ _ _ ?_).mono ?_); (focus ((refine (own_hs KX.out).below ?_); repeat (first | exact Below.refl _ _ | refine below_bx2 ?_ _ | refine below_drw ?_ | refine below_to ?_ (by assumption)))); rintro e wC ⟨aC, cC, rfl, hoC, blC⟩; obtain ⟨hcC, hfC⟩ := bcl3 blC; obtain ⟨hcD, hfD⟩ := bcl3 (blx_next (Y := wC) blB (by refine below_to ?_ blC; repeat (first | exact Below.refl _ _ | refine below_bx2 ?_ _ | refine below_drw ?_))); have hsC := blC.size; (try simp at hsC)))
      all_goals
        go_wp2_with fail
        go_meet
        refine ⟨?_, rfl⟩
        first
          | exact BoxR.last hoC (by first | exact Nat.le_refl _ | omega | (simp; omega) | (simp; done)) (by repeat (first | exact Below.refl _ _ | refine below_bx2 ?_ _ | refine below_drw ?_ | refine below_to ?_ (by assumption)))
          | exact BoxR.early (U := wB) (x := .slice none 0 0) blC (by first | exact Nat.le_refl _ | omega | (simp; omega) | (simp; done)) hoC (by first | exact Nat.le_refl _ | omega | (simp; omega) | (simp; done)) (by repeat (first | exact Below.refl _ _ | refine below_bx2 ?_ _ | refine below_drw ?_ | refine below_to ?_ (by assumption)))
          | exact BoxR.early (U := X) (x := .slice none 0 0) (by repeat (first | exact Below.refl _ _ | refine below_bx2 ?_ _ | refine below_drw ?_ | refine below_to ?_ (by assumption))) (by first | exact Nat.le_refl _ | omega | (simp; omega) | (simp; done)) hoC (by first | exact Nat.le_refl _ | omega | (simp; omega) | (simp; done)) (by repeat (first | exact Below.refl _ _ | refine below_bx2 ?_ _ | refine below_drw ?_ | refine below_to ?_ (by assumption)))
    case rest =>
      rename World => wc2
      obtain ⟨⟨g9, ag, cg, rfl, hgg9, hhg9, hog9, hbg9⟩, rfl⟩ := hcut
      have x10 : wc2.cell? ⟨g9, 0, none⟩ = some (.slice ag len cg) := cell_of_row _ _ 0 _ _ _ hhg9
      have lg9 := lt_of_block hhg9
      have OG := Lib.hid hog9
      have xg := Lib.hid (fun p (h : (Value.slice ag len cg).ownBlock = some p) => own_block_lt OG.out h)
      have zzg9 := hbg9.size
      have neg9 := Lib.hid (box_row_ne hhg9 hog9)
      have p0_13 := cell_to p0_6 hbg9
      have y1_14 := cell_to y1_7 hbg9
      have y2_15 := cell_to y2_8 hbg9
      have y3_16 := cell_to y3_9 hbg9
      have x6_17 := cell_to x6_10 hbg9
      have x8_18 := cell_to x8 hbg9
      have OW_19 := Lib.hid (own_below OW_11.out hbg9)
      have KX_20 := Lib.hid (own_below KX.out hbg9)
      have b_21 := below_to b_12 hbg9
      clear p0_6 y1_7 y2_8 y3_9 x6_10 x8 OW_11 KX b_12
      clear hhg9 hog9 hbg9
      go_wp2_with fail
      refine (HER.out _ _ _ _ _ (own_hs OG.out) (own_hs OW_19.out)).mono ?_
      rintro e w7 ⟨rfl, blw7⟩
      have zzw7 := blw7.size
      have p0_22 := cell_to p0_13 blw7
      have y1_23 := cell_to y1_14 blw7
      have y2_24 := cell_to y2_15 blw7
      have y3_25 := cell_to y3_16 blw7
      have x6_26 := cell_to x6_17 blw7
      have x8_27 := cell_to x8_18 blw7
      have x10_28 := cell_to x10 blw7
      have OW_29 := Lib.hid (own_below OW_19.out blw7)
      have KX_30 := Lib.hid (own_below KX_20.out blw7)
      have OG_31 := Lib.hid (own_below OG.out blw7)
      have b_32 := below_to b_21 blw7
      clear p0_13 y1_14 y2_15 y3_16 x6_17 x8_18 x10 OW_19 KX_20 OG b_21
      clear blw7
      go_wp2
      go_region_held3 (fun w' => w'.cell? ⟨bx, 0, none⟩ = some (.slice ax n cx) ∧ w'.cell? ⟨w.heap.size, 0, none⟩ = some (.slice a n ca))
        ((refine twoc x8_27 p0_22 ?_; repeat (first | exact Below.refl _ _ | refine below_drw ?_ | refine below_to ?_ (by assumption))))
        (first | (go_at_call 11; (with_reducible refine (HTA.out _ ?_).mono ?_); (focus (repeat (first | exact b_32 | refine below_drw ?_ | refine below_to ?_ (by assumption)))); rintro e w20 ⟨ao20, cp20, rfl, ho20, bl20⟩) | (go_at_call 14; (with_reducible refine (HEA.out _ _ _ _ _ ?_ ?_).mono ?_); (focus ((refine (own_hs KX_30.out).below ?_); repeat (first | exact Below.refl _ _ | refine below_drw ?_ | refine below_to ?_ (by assumption)))); (focus (exact own_hs ho20)); rintro e w20' ⟨rfl, bl20'⟩))
      have blj20 : Below w7.heap.size w7 w20' := below_to (below_to (below_drw (Below.refl _ _)) bl20) bl20'
      have zz20 := blj20.size
      have p0_33 := cell_to p0_22 blj20
      have y1_34 := cell_to y1_23 blj20
      have y2_35 := cell_to y2_24 blj20
      have y3_36 := cell_to y3_25 blj20
      have x6_37 := cell_to x6_26 blj20
      have x8_38 := cell_to x8_27 blj20
      have x10_39 := cell_to x10_28 blj20
      have OW_40 := Lib.hid (own_below OW_29.out blj20)
      have KX_41 := Lib.hid (own_below KX_30.out blj20)
      have OG_42 := Lib.hid (own_below OG_31.out blj20)
      have b_43 := below_to b_32 blj20
      clear p0_22 y1_23 y2_24 y3_25 x6_26 x8_27 x10_28 OW_29 KX_30 OG_31 b_32
      clear bl20 bl20' blj20 ho20
      go_wp2_with fail
      refine (mark_region3 _ n wc.heap.size ps 1 w20' (by omega) (by omega) (by omega) KX_41.out).mono ?_
      rintro e wa ⟨rfl, hgA⟩
      have bwA : Below wc.heap.size w20' wa := grown_below KX_41.out (by omega) hgA
      have p0_44 := cell_far p0_33 hgA (fun h => by have := (xx.out _ h.symm).1; have := (xx.out _ h.symm).2; simp only at *; omega)
      have y1_45 := cell_far y1_34 hgA (fun h => by have := (xx.out _ h.symm).1; have := (xx.out _ h.symm).2; simp only at *; omega)
      have y2_46 := cell_far y2_35 hgA (fun h => by have := (xx.out _ h.symm).1; have := (xx.out _ h.symm).2; simp only at *; omega)
      have y3_47 := cell_far y3_36 hgA (fun h => by have := (xx.out _ h.symm).1; have := (xx.out _ h.symm).2; simp only at *; omega)
      have x6_48 := cell_far x6_37 hgA (fun h => by have := (xx.out _ h.symm).1; have := (xx.out _ h.symm).2; simp only at *; omega)
      have x10_49 := cell_far x10_39 hgA (fun h => by have := (xx.out _ h.symm).1; have := (xx.out _ h.symm).2; simp only at *; omega)
      have OW_50 := Lib.hid (own_grow OW_40.out hgA (fun p hp e => by have := (xw.out p hp).1; have := (xw.out p hp).2; have := (xx.out p e.symm).1; have := (xx.out p e.symm).2; omega))
      have OG_51 := Lib.hid (own_grow OG_42.out hgA (fun p hp e => by have := (xg.out p hp).1; have := (xg.out p hp).2; have := (xx.out p e.symm).1; have := (xx.out p e.symm).2; omega))
      have ba : Below w.heap.size w wa := b_43.trans (bwA.mono (by omega))
      have zA := bwA.size
      have zA' := hgA.size
      clear p0_33 y1_34 y2_35 y3_36 x6_37 x8_38 x10_39 OW_40 KX_41 OG_42 b_43 hgA bwA
      have hk1 : ¬ ((3 * (n : Int) + 1) < 0) := by omega
      go_wp2_with fail
      refine (HER.out _ _ _ _ _ (own_hs OG_51.out) (own_hs OW_50.out)).mono ?_
      rintro e w8 ⟨rfl, blw8⟩
      have zzw8 := blw8.size
      have p0_52 := cell_to p0_44 blw8
      have y1_53 := cell_to y1_45 blw8
      have y2_54 := cell_to y2_46 blw8
      have y3_55 := cell_to y3_47 blw8
      have x6_56 := cell_to x6_48 blw8
      have x10_57 := cell_to x10_49 blw8
      have OW_58 := Lib.hid (own_below OW_50.out blw8)
      have OG_59 := Lib.hid (own_below OG_51.out blw8)
      have b_60 := below_to ba blw8
      clear p0_44 y1_45 y2_46 y3_47 x6_48 x10_49 OW_50 OG_51 ba
      clear blw8
      go_wp2_with fail
      refine (mark_region2 _ len X.heap.size L w8 (by omega) OG_59.out).mono ?_
      rintro e we ⟨rfl, hoE, hgE⟩
      have bwE : Below X.heap.size w8 we := grown_below OG_59.out (by omega) hgE
      have p0_61 := cell_far p0_52 hgE (fun h => by have := (xg.out _ h.symm).1; have := (xg.out _ h.symm).2; simp only at *; omega)
      have y1_62 := cell_far y1_53 hgE (fun h => by have := (xg.out _ h.symm).1; have := (xg.out _ h.symm).2; simp only at *; omega)
      have y2_63 := cell_far y2_54 hgE (fun h => by have := (xg.out _ h.symm).1; have := (xg.out _ h.symm).2; simp only at *; omega)
      have y3_64 := cell_far y3_55 hgE (fun h => by have := (xg.out _ h.symm).1; have := (xg.out _ h.symm).2; simp only at *; omega)
      have x6_65 := cell_far x6_56 hgE (fun h => by have := (xg.out _ h.symm).1; have := (xg.out _ h.symm).2; simp only at *; omega)
      have x10_66 := cell_far x10_57 hgE neg9.out
      have OW_67 := Lib.hid (own_grow OW_58.out hgE (fun p hp e => by have := (xw.out p hp).1; have := (xw.out p hp).2; have := (xg.out p e.symm).1; have := (xg.out p e.symm).2; omega))
      have OG' := Lib.hid hoE
      have be : Below w.heap.size w we := b_60.trans (bwE.mono (by omega))
      have zE' := hgE.size
      clear p0_52 y1_53 y2_54 y3_55 x6_56 x10_57 OW_58 OG_59 b_60 hgE bwE hoE
      go_wp2_with fail
      refine (held_region ag len cg we (by omega) (own_hs OG'.out)).mono ?_
      rintro e w9 ⟨rfl, blw9⟩
      have zzw9 := blw9.size
      have p0_68 := cell_to p0_61 blw9
      have y1_69 := cell_to y1_62 blw9
      have y2_70 := cell_to y2_63 blw9
      have y3_71 := cell_to y3_64 blw9
      have x6_72 := cell_to x6_65 blw9
      have x10_73 := cell_to x10_66 blw9
      have OW_74 := Lib.hid (own_below OW_67.out blw9)
      have OG_75 := Lib.hid (own_below OG'.out blw9)
      have b_76 := below_to be blw9
      clear p0_61 y1_62 y2_63 y3_64 x6_65 x10_66 OW_67 OG' be
      clear blw9
      have hk2 : ¬ ((3 * (len : Int) + 1) < 0) := by omega
      go_wp2_with fail
      go_cut [14, 15] from 79 to 86 (fun s6 s7 wx => BoxR w9 L len s6 wx ∧ s7 = .bool R)
      case first =>
        go_region_held3 (fun w' => w'.cell? ⟨w.heap.size, 0, none⟩ = some (.slice a n ca) ∧ w'.cell? ⟨w.heap.size + 1, 0, none⟩ = some (.int .i64 ha) ∧ w'.cell? ⟨w.heap.size + 1, 1, none⟩ = some (.int .i64 hb) ∧ w'.cell? ⟨w.heap.size + 1, 2, none⟩ = some (.int .i64 hc))
          ((refine fourc p0_68 y1_69 y2_70 y3_71 ?_; repeat (first | exact Below.refl _ _ | refine Below.setCell ?_ (by first | (simp; done) | (simp; omega)) _ | refine below_bx2 ?_ _ | refine below_drw ?_ | refine below_to ?_ (by assumption))))
          (first
            | (go_at_call 11; (with_reducible refine (HTA.out _ ?_).mono ?_); (focus (repeat (first | exact b_76 | refine below_bx2 ?_ _ | refine below_drw ?_ | refine below_to ?_ (by assumption)))); rintro e wA ⟨aA, cA, rfl, hoA, blA⟩; have hsA := blA.size; (try simp at hsA))
            | (go_at_call 12; (with_reducible refine (HTH.out _).mono ?_); rintro e wB ⟨rfl, blB⟩; have hsB := blB.size; (try simp at hsB))
            | (go_at_call 13; (with_reducible refine (HI.out _ _ _ ?_).mono ?_); (focus ((refine (own_hs hoA).below ?_); repeat (first | exact Below.refl _ _ | refine below_bx2 ?_ _ | refine below_drw ?_ | refine below_to ?_ (by assumption)))); rintro e wC ⟨aC, cC, rfl, hoC, blC⟩; obtain ⟨hcC, hfC⟩ := bcl3 blC; obtain ⟨hcD, hfD⟩ := bcl3 (blx_next (Y := wC) blB (by refine below_to ?_ blC; repeat (first | exact Below.refl _ _ | refine below_bx2 ?_ _ | refine below_drw ?_))); obtain ⟨hcE, hfE⟩ := bcl3 (blx_next (Y := wC) blA (by refine below_to ?_ blC; repeat (first | exact Below.refl _ _ | refine below_bx2 ?_ _ | refine below_drw ?_ | refine below_to ?_ blB))); have hsC := blC.size; (try simp at hsC)))
        all_goals
          go_wp2_with fail
          go_meet
          refine ⟨?_, rfl⟩
          first
            | exact BoxR.last hoC (by first | exact Nat.le_refl _ | omega | (simp; omega) | (simp; done)) (by repeat (first | exact Below.refl _ _ | refine below_bx2 ?_ _ | refine below_drw ?_ | refine below_to ?_ (by assumption)))
            | exact BoxR.early (U := wB) (x := .slice none 0 0) blC (by first | exact Nat.le_refl _ | omega | (simp; omega) | (simp; done)) hoC (by first | exact Nat.le_refl _ | omega | (simp; omega) | (simp; done)) (by repeat (first | exact Below.refl _ _ | refine below_bx2 ?_ _ | refine below_drw ?_ | refine below_to ?_ (by assumption)))
            | exact BoxR.early (U := wA) (x := .slice none 0 0) (by repeat (first | exact Below.refl _ _ | refine below_bx2 ?_ _ | refine below_drw ?_ | refine below_to ?_ (by assumption))) (by first | exact Nat.le_refl _ | omega | (simp; omega) | (simp; done)) hoC (by first | exact Nat.le_refl _ | omega | (simp; omega) | (simp; done)) (by repeat (first | exact Below.refl _ _ | refine below_bx2 ?_ _ | refine below_drw ?_ | refine below_to ?_ (by assumption)))
            | exact BoxR.early (U := w9) (x := .slice none 0 0) (by repeat (first | exact Below.refl _ _ | refine below_bx2 ?_ _ | refine below_drw ?_ | refine below_to ?_ (by assumption))) (by first | exact Nat.le_refl _ | omega | (simp; omega) | (simp; done)) hoC (by first | exact Nat.le_refl _ | omega | (simp; omega) | (simp; done)) (by repeat (first | exact Below.refl _ _ | refine below_bx2 ?_ _ | refine below_drw ?_ | refine below_to ?_ (by assumption)))
      case rest =>
        rename World => wc3
        obtain ⟨⟨gh, ah, ch, rfl, hgh, hhh, hoh, hbh⟩, rfl⟩ := hcut
        have xh : wc3.cell? ⟨gh, 0, none⟩ = some (.slice ah len ch) := cell_of_row _ _ 0 _ _ _ hhh
        have b20 := below_to b_76 hbh
        have z6 := cell_to x6_72 hbh
        have z10 := cell_to x10_73 hbh
        have QW := Lib.hid (own_below OW_74.out hbh)
        have QG := Lib.hid (own_below OG_75.out hbh)
        have QH := Lib.hid hoh
        clear hhh hoh hbh
        go_wp2_with fail
        refine (HER.out _ _ _ _ _ (own_hs QH.out) (own_hs QW.out)).mono ?_
        rintro e wy ⟨rfl, bly⟩
        have b21 := below_to b20 bly
        have z11 := cell_to z10 bly
        have RG := Lib.hid (own_below QG.out bly)
        clear b20 z6 z10 QW QG QH bly xh
        go_wp2_with fail
        refine (held_region ag len cg wy (by omega) (own_hs RG.out)).mono ?_
        rintro e wt ⟨rfl, blt⟩
        have b22 := below_to b21 blt
        clear b21 z11 RG blt
        go_wp2
        go_ret
        exact ⟨rfl, b22⟩
set_option maxRecDepth 100000 in
set_option maxHeartbeats 1600000 in
theorem law_cut2 (a : Option Addr) (n ca : Nat) (ps : List H3) (ha hb hc : Int) (wa : (Lit.int .i64 ha).wf = true) (wb : (Lit.int .i64 hb).wf = true) (wc' : (Lit.int .i64 hc).wf = true) (w : World) (hl : ps.length = n) (hn : n ≤ maxLen) (h64 : ∀ h ∈ ps, In64 h) (hA : HsAt w a ps) :
    Calls Try.prog 3 #[.agg #[.slice a n ca], .agg #[.int .i64 ha, .int .i64 hb, .int .i64 hc]] w fun e w' => e = .returned (.bool true) ∧ Below w.heap.size w w' := by
  by_cases hle : (n : Int) ≤ 1048576
  · exact law_cut a n ca ps ha hb hc wa wb wc' w hl hn h64 hA hle
  · have HZA := Lib.hid (fun V => sz_region a n ca V hn 1048576 (by omega) (by omega) (-1) (by rw [if_neg hle]))
    clear hn hA hl h64 hle wa wb wc'
    go_enter Try.func3, Try.ntmps3
    go_wp2_with fail
    have b0 := below_bx2 (below_one w (.cells #[.slice a n ca] 24)) (.cells #[.int .i64 ha, .int .i64 hb, .int .i64 hc] 26)
    generalize (w.alloc (.cells #[.slice a n ca] 24)).alloc (.cells #[.int .i64 ha, .int .i64 hb, .int .i64 hc] 26) = V at *
    refine (HZA.out _).mono ?_
    rintro e w1 ⟨rfl, bl1⟩
    have b1 := below_to b0 bl1
    go_wp2
    go_ret
    exact ⟨rfl, b1⟩
end Go.Proofs.Ytckfmgldgjnepaa
