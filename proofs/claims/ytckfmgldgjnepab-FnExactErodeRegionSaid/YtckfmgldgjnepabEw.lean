/- The law of ErodeRegion. -/
import Derived.Test.YtckfmgldgjnepabMf
import Derived.Test.YtckfmgldgjnepabEs
import Derived.Test.YtckfmgldgjnepabEv
namespace Go.Proofs.Ytckfmgldgjnepab
open Go.RowKit
open Geo (H3)

set_option maxRecDepth 100000 in
set_option maxHeartbeats 6400000 in
theorem law_ero (a b : Option Addr) (n m ca cb : Nat) (ps qs : List H3) (w : World) (hl : ps.length = n) (hn : n ≤ maxLen) (h64 : ∀ h ∈ ps, In64 h) (hA : HsAt w a ps) (hk : qs.length = m) (hm : m ≤ maxLen) (k64 : ∀ h ∈ qs, In64 h) (hB : HsAt w b qs) (hle : (n : Int) + m ≤ 1048576) :
    Calls Try.prog 4 #[.agg #[.slice a n ca], .agg #[.slice b m cb]] w fun e w' => e = .returned (.bool true) ∧ Below w.heap.size w w' := by
  have HTA := Lib.hid (fun V (h : Below w.heap.size w V) => to_region2 a n ca ps V hl (by omega) (hA.below h))
  have HTB := Lib.hid (fun V (h : Below w.heap.size w V) => to_region2 b m cb qs V hk (by omega) (hB.below h))
  have HEA := Lib.hid (fun V a1 a2 c1 c2 (h1 : HsAt V a1 ps) (h2 : HsAt V a2 ps) => eq_region a1 a2 n c1 c2 ps V hl (by omega) h1 h2)
  have HEB := Lib.hid (fun V a1 a2 c1 c2 (h1 : HsAt V a1 qs) (h2 : HsAt V a2 qs) => eq_region a1 a2 m c1 c2 qs V hk (by omega) h1 h2)
  have HZA := Lib.hid (fun V => sz_region a n ca V hn 1048576 (by omega) (by omega) (1048576 - n) (by rw [if_pos (by omega)]))
  have HZB := Lib.hid (fun V => sz_region b m cb V hm (1048576 - n) (by omega) (by omega) (1048576 - n - m) (by rw [if_pos (by omega)]))
  have HS := Lib.hid (fun V a1 c1 a2 c2 (h0 : a1 = none → n = 0 ∧ c1 = 0) (k0 : a2 = none → m = 0 ∧ c2 = 0) (h1 : HsAt V a1 ps) (h2 : HsAt V a2 qs) => spec_ero a1 a2 n m c1 c2 ps qs V hl hk (by omega) (by omega) h64 k64 h0 k0 h1 h2)
  have HI := Lib.hid (fun V a1 c1 a2 c2 (h1 : HsAt V a1 ps) (h2 : HsAt V a2 qs) => impl_ero a1 a2 n m c1 c2 ps qs V hl hk (by omega) (by omega) h64 k64 h1 h2)
  have hL : (eroL ps qs).length ≤ 40 := by
    unfold eroL; split
    · exact mvL_len _ _ _ _
    · simp
  have HER := Lib.hid (fun V a1 a2 c1 c2 (h1 : HsAt V a1 (eroL ps qs)) (h2 : HsAt V a2 (eroL ps qs)) => eq_region a1 a2 (eroL ps qs).length c1 c2 (eroL ps qs) V rfl (by omega) h1 h2)
  unfold AnsR at HS HI
  generalize eroL ps qs = L at *
  generalize eroB ps qs = R at *
  generalize L.length = len at *
  clear hn hm hA hB hl hk h64 k64
  go_enter Try.func4, Try.ntmps4
  go_wp2_with fail
  have b0 := below_bx2 (below_one w (.cells #[.slice a n ca] 24)) (.cells #[.slice b m cb] 24)
  have q0 := cell_to (show (w.alloc (.cells #[.slice a n ca] 24)).cell? ⟨w.heap.size, 0, none⟩ = some (.slice a n ca) by simp) (below_one _ (.cells #[.slice b m cb] 24))
  have q1 : ((w.alloc (.cells #[.slice a n ca] 24)).alloc (.cells #[.slice b m cb] 24)).cell? ⟨w.heap.size + 1, 0, none⟩ = some (.slice b m cb) := by simp
  generalize (w.alloc (.cells #[.slice a n ca] 24)).alloc (.cells #[.slice b m cb] 24) = V at *
  refine (HZA.out _).mono ?_
  rintro e w1 ⟨rfl, bl1⟩
  have b1 := below_to b0 bl1
  have p0 := cell_to q0 bl1
  have p1 := cell_to q1 bl1
  clear bl1 b0 q0 q1
  have hz1 : ¬ ((1048576 - (n : Int)) < 0) := by omega
  have hz2 : ¬ ((1048576 - (n : Int) - (m : Int)) < 0) := by omega
  go_wp2_with fail
  refine (HZB.out _).mono ?_
  rintro e w2 ⟨rfl, bl2⟩
  have b2 := below_to b1 bl2
  have q0 := cell_to p0 bl2
  have q1 := cell_to p1 bl2
  clear bl2 b1 p0 p1
  go_wp2_with fail
  go_cut [6, 7] from 27 to 34 (fun s6 s7 wx => BoxR w2 L len s6 wx ∧ s7 = .bool R)
  case first =>
    go_region_held3 (fun w' => w'.cell? ⟨w.heap.size, 0, none⟩ = some (.slice a n ca) ∧ w'.cell? ⟨w.heap.size + 1, 0, none⟩ = some (.slice b m cb))
      ((refine twoc q0 q1 ?_; repeat (first | exact Below.refl _ _ | refine Below.setCell ?_ (by first | (simp; done) | (simp; omega)) _ | refine below_bx2 ?_ _ | refine below_drw ?_ | refine below_to ?_ (by assumption))))
      (first
        | (go_at_call 11; (with_reducible refine (HTA.out _ ?_).mono ?_); (focus (repeat (first | exact b2 | refine below_bx2 ?_ _ | refine below_drw ?_ | refine below_to ?_ (by assumption)))); rintro e wA ⟨aA, cA, rfl, hoA, blA⟩; have hsA := blA.size; (try simp at hsA))
        | (go_at_call 11; (with_reducible refine (HTB.out _ ?_).mono ?_); (focus (repeat (first | exact b2 | refine below_bx2 ?_ _ | refine below_drw ?_ | refine below_to ?_ (by assumption)))); rintro e wB ⟨aB, cB, rfl, hoB, blB⟩; have hsB := blB.size; (try simp at hsB))
        | (go_at_call 16; (with_reducible refine (HS.out _ _ _ _ _ (own_nil hoA) (own_nil hoB) ?_ ?_).mono ?_); (focus ((refine (own_hs hoA).below ?_); repeat (first | exact Below.refl _ _ | refine below_bx2 ?_ _ | refine below_drw ?_ | refine below_to ?_ (by assumption)))); (focus ((refine (own_hs hoB).below ?_); repeat (first | exact Below.refl _ _ | refine below_bx2 ?_ _ | refine below_drw ?_ | refine below_to ?_ (by assumption)))); rintro e wC ⟨aC, cC, rfl, hoC, blC⟩; obtain ⟨hcC, hfC⟩ := bcl3 blC; obtain ⟨hcD, hfD⟩ := bcl3 (blx_next (Y := wC) blB (by refine below_to ?_ blC; repeat (first | exact Below.refl _ _ | refine below_bx2 ?_ _ | refine below_drw ?_))); obtain ⟨hcE, hfE⟩ := bcl3 (blx_next (Y := wC) blA (by refine below_to ?_ blC; repeat (first | exact Below.refl _ _ | refine below_bx2 ?_ _ | refine below_drw ?_ | refine below_to ?_ blB))); have hsC := blC.size; (try simp at hsC)))
    all_goals
      go_wp2_with fail
      go_meet
      refine ⟨?_, rfl⟩
      first
        | exact BoxR.last hoC (by first | exact Nat.le_refl _ | omega | (simp; omega) | (simp; done)) (by repeat (first | exact Below.refl _ _ | refine below_bx2 ?_ _ | refine below_drw ?_ | refine below_to ?_ (by assumption)))
        | exact BoxR.early (U := wB) (x := .slice none 0 0) blC (by first | exact Nat.le_refl _ | omega | (simp; omega) | (simp; done)) hoC (by first | exact Nat.le_refl _ | omega | (simp; omega) | (simp; done)) (by repeat (first | exact Below.refl _ _ | refine below_bx2 ?_ _ | refine below_drw ?_ | refine below_to ?_ (by assumption)))
        | exact BoxR.early (U := wA) (x := .slice none 0 0) (by repeat (first | exact Below.refl _ _ | refine below_bx2 ?_ _ | refine below_drw ?_ | refine below_to ?_ (by assumption))) (by first | exact Nat.le_refl _ | omega | (simp; omega) | (simp; done)) hoC (by first | exact Nat.le_refl _ | omega | (simp; omega) | (simp; done)) (by repeat (first | exact Below.refl _ _ | refine below_bx2 ?_ _ | refine below_drw ?_ | refine below_to ?_ (by assumption)))
        | exact BoxR.early (U := w2) (x := .slice none 0 0) (by repeat (first | exact Below.refl _ _ | refine below_bx2 ?_ _ | refine below_drw ?_ | refine below_to ?_ (by assumption))) (by first | exact Nat.le_refl _ | omega | (simp; omega) | (simp; done)) hoC (by first | exact Nat.le_refl _ | omega | (simp; omega) | (simp; done)) (by repeat (first | exact Below.refl _ _ | refine below_bx2 ?_ _ | refine below_drw ?_ | refine below_to ?_ (by assumption)))
  case rest =>
    obtain ⟨⟨g6, aw, cw, rfl, hg6, hh6, how, hb6⟩, rfl⟩ := hcut
    have x6 : wc.cell? ⟨g6, 0, none⟩ = some (.slice aw len cw) := cell_of_row _ _ 0 _ _ _ hh6
    have l6 := lt_of_block hh6
    have b3 := below_to b2 hb6
    have p0 := cell_to q0 hb6
    have p1 := cell_to q1 hb6
    have l0 := block_lt_of_cell p0
    have l1 := block_lt_of_cell p1
    simp only at l0 l1
    have OW := Lib.hid how
    have xw := Lib.hid (fun p (h : (Value.slice aw len cw).ownBlock = some p) => own_block_lt OW.out h)
    have zc := b3.size
    clear hh6 how hb6 b2 q0 q1
    go_wp2_with fail
    refine (HTA.out _ b3).mono ?_
    rintro e w4 ⟨ax, cx, rfl, how4, blw4⟩
    have zzw4 := blw4.size
    have KX := Lib.hid (own_below how4 (below_one w4 (.cells #[.slice ax n cx] 28)))
    have xx := Lib.hid (fun p (h : (Value.slice ax n cx).ownBlock = some p) => own_block_lt how4 h)
    obtain ⟨x8, _⟩ := box_one (U := w4) rfl (.slice ax n cx) 28
    have bxw4 := below_to blw4 (below_one w4 (.cells #[.slice ax n cx] 28))
    have zyw4 : (w4.alloc (.cells #[.slice ax n cx] 28)).heap.size = w4.heap.size + 1 := by simp
    have p0_1 := cell_to p0 bxw4
    have p1_2 := cell_to p1 bxw4
    have x6_3 := cell_to x6 bxw4
    have OW_4 := Lib.hid (own_below OW.out bxw4)
    have b_5 := below_to b3 bxw4
    clear p0 p1 x6 OW b3
    clear how4 blw4 bxw4
    go_wp2_with fail
    generalize w4.alloc (.cells #[.slice ax n cx] 28) = X at *
    obtain ⟨bx, hbx⟩ : ∃ b, w4.heap.size = b := ⟨_, rfl⟩
    rw [hbx] at x8 zyw4 zzw4 xx ⊢
    clear hbx
    refine (HTB.out _ b_5).mono ?_
    rintro e w5 ⟨ay, cy, rfl, how5, blw5⟩
    have zzw5 := blw5.size
    have KY := Lib.hid (own_below how5 (below_one w5 (.cells #[.slice ay m cy] 28)))
    have xy := Lib.hid (fun p (h : (Value.slice ay m cy).ownBlock = some p) => own_block_lt how5 h)
    obtain ⟨x9, _⟩ := box_one (U := w5) rfl (.slice ay m cy) 28
    have bxw5 := below_to blw5 (below_one w5 (.cells #[.slice ay m cy] 28))
    have zyw5 : (w5.alloc (.cells #[.slice ay m cy] 28)).heap.size = w5.heap.size + 1 := by simp
    have p0_6 := cell_to p0_1 bxw5
    have p1_7 := cell_to p1_2 bxw5
    have x6_8 := cell_to x6_3 bxw5
    have x8_9 := cell_to x8 bxw5
    have OW_10 := Lib.hid (own_below OW_4.out bxw5)
    have KX_11 := Lib.hid (own_below KX.out bxw5)
    have b_12 := below_to b_5 bxw5
    clear p0_1 p1_2 x6_3 x8 OW_4 KX b_5
    clear how5 blw5 bxw5
    go_wp2_with fail
    generalize w5.alloc (.cells #[.slice ay m cy] 28) = Y at *
    obtain ⟨by', hby'⟩ : ∃ b, w5.heap.size = b := ⟨_, rfl⟩
    rw [hby'] at x9 zyw5 zzw5 xy ⊢
    clear hby'
    refine (HI.out _ _ _ _ _ (own_hs KX_11.out) (own_hs KY.out)).mono ?_
    rintro e w6 ⟨ag, cg, rfl, hog, bl6⟩
    have zz6 := bl6.size
    have OG := Lib.hid (own_below hog (below_one w6 (.cells #[.slice ag len cg] 28)))
    have xg := Lib.hid (fun p (h : (Value.slice ag len cg).ownBlock = some p) => own_block_lt hog h)
    obtain ⟨x10, _⟩ := box_one (U := w6) rfl (.slice ag len cg) 28
    have bx6 := below_to bl6 (below_one w6 (.cells #[.slice ag len cg] 28))
    have zy6 : (w6.alloc (.cells #[.slice ag len cg] 28)).heap.size = w6.heap.size + 1 := by simp
    have p0_13 := cell_to p0_6 bx6
    have p1_14 := cell_to p1_7 bx6
    have x6_15 := cell_to x6_8 bx6
    have x8_16 := cell_to x8_9 bx6
    have x9_17 := cell_to x9 bx6
    have OW_18 := Lib.hid (own_below OW_10.out bx6)
    have KX_19 := Lib.hid (own_below KX_11.out bx6)
    have KY_20 := Lib.hid (own_below KY.out bx6)
    have b_21 := below_to b_12 bx6
    clear p0_6 p1_7 x6_8 x8_9 x9 OW_10 KX_11 KY b_12
    clear hog bl6 bx6
    go_wp2_with fail
    generalize w6.alloc (.cells #[.slice ag len cg] 28) = Z at *
    obtain ⟨bg, hbg⟩ : ∃ b, w6.heap.size = b := ⟨_, rfl⟩
    rw [hbg] at x10 zy6 zz6 xg ⊢
    clear hbg
    refine (HER.out _ _ _ _ _ (own_hs OG.out) (own_hs OW_18.out)).mono ?_
    rintro e w7 ⟨rfl, blw7⟩
    have zzw7 := blw7.size
    have p0_22 := cell_to p0_13 blw7
    have p1_23 := cell_to p1_14 blw7
    have x6_24 := cell_to x6_15 blw7
    have x8_25 := cell_to x8_16 blw7
    have x9_26 := cell_to x9_17 blw7
    have x10_27 := cell_to x10 blw7
    have OW_28 := Lib.hid (own_below OW_18.out blw7)
    have KX_29 := Lib.hid (own_below KX_19.out blw7)
    have KY_30 := Lib.hid (own_below KY_20.out blw7)
    have OG_31 := Lib.hid (own_below OG.out blw7)
    have b_32 := below_to b_21 blw7
    clear p0_13 p1_14 x6_15 x8_16 x9_17 x10 OW_18 KX_19 KY_20 OG b_21
    clear blw7
    go_wp2
    go_region_held3 (fun w' => w'.cell? ⟨bx, 0, none⟩ = some (.slice ax n cx) ∧ w'.cell? ⟨w.heap.size, 0, none⟩ = some (.slice a n ca))
      ((refine twoc x8_25 p0_22 ?_; repeat (first | exact Below.refl _ _ | refine below_drw ?_ | refine below_to ?_ (by assumption))))
      (first | (go_at_call 11; (with_reducible refine (HTA.out _ ?_).mono ?_); (focus (repeat (first | exact b_32 | refine below_drw ?_ | refine below_to ?_ (by assumption)))); rintro e w20 ⟨ao20, cp20, rfl, ho20, bl20⟩) | (go_at_call 13; (with_reducible refine (HEA.out _ _ _ _ _ ?_ ?_).mono ?_); (focus ((refine (own_hs KX_29.out).below ?_); repeat (first | exact Below.refl _ _ | refine below_drw ?_ | refine below_to ?_ (by assumption)))); (focus (exact own_hs ho20)); rintro e w20' ⟨rfl, bl20'⟩))
    have blj20 : Below w7.heap.size w7 w20' := below_to (below_to (below_drw (Below.refl _ _)) bl20) bl20'
    have zz20 := blj20.size
    have p0_33 := cell_to p0_22 blj20
    have p1_34 := cell_to p1_23 blj20
    have x6_35 := cell_to x6_24 blj20
    have x8_36 := cell_to x8_25 blj20
    have x9_37 := cell_to x9_26 blj20
    have x10_38 := cell_to x10_27 blj20
    have OW_39 := Lib.hid (own_below OW_28.out blj20)
    have KX_40 := Lib.hid (own_below KX_29.out blj20)
    have KY_41 := Lib.hid (own_below KY_30.out blj20)
    have OG_42 := Lib.hid (own_below OG_31.out blj20)
    have b_43 := below_to b_32 blj20
    clear p0_22 p1_23 x6_24 x8_25 x9_26 x10_27 OW_28 KX_29 KY_30 OG_31 b_32
    clear bl20 bl20' blj20 ho20
    go_wp2
    go_region_held3 (fun w' => w'.cell? ⟨by', 0, none⟩ = some (.slice ay m cy) ∧ w'.cell? ⟨w.heap.size + 1, 0, none⟩ = some (.slice b m cb))
      ((refine twoc x9_37 p1_34 ?_; repeat (first | exact Below.refl _ _ | refine below_drw ?_ | refine below_to ?_ (by assumption))))
      (first | (go_at_call 11; (with_reducible refine (HTB.out _ ?_).mono ?_); (focus (repeat (first | exact b_43 | refine below_drw ?_ | refine below_to ?_ (by assumption)))); rintro e w21 ⟨ao21, cp21, rfl, ho21, bl21⟩) | (go_at_call 13; (with_reducible refine (HEB.out _ _ _ _ _ ?_ ?_).mono ?_); (focus ((refine (own_hs KY_41.out).below ?_); repeat (first | exact Below.refl _ _ | refine below_drw ?_ | refine below_to ?_ (by assumption)))); (focus (exact own_hs ho21)); rintro e w21' ⟨rfl, bl21'⟩))
    have blj21 : Below w20'.heap.size w20' w21' := below_to (below_to (below_drw (Below.refl _ _)) bl21) bl21'
    have zz21 := blj21.size
    have p0_44 := cell_to p0_33 blj21
    have p1_45 := cell_to p1_34 blj21
    have x6_46 := cell_to x6_35 blj21
    have x8_47 := cell_to x8_36 blj21
    have x9_48 := cell_to x9_37 blj21
    have x10_49 := cell_to x10_38 blj21
    have OW_50 := Lib.hid (own_below OW_39.out blj21)
    have KX_51 := Lib.hid (own_below KX_40.out blj21)
    have KY_52 := Lib.hid (own_below KY_41.out blj21)
    have OG_53 := Lib.hid (own_below OG_42.out blj21)
    have b_54 := below_to b_43 blj21
    clear p0_33 p1_34 x6_35 x8_36 x9_37 x10_38 OW_39 KX_40 KY_41 OG_42 b_43
    clear bl21 bl21' blj21 ho21
    go_wp2_with fail
    refine (mark_region3 _ n wc.heap.size ps 1 w21' (by omega) (by omega) (by omega) KX_51.out).mono ?_
    rintro e wa ⟨rfl, hgA⟩
    have bwA : Below wc.heap.size w21' wa := grown_below KX_51.out (by omega) hgA
    have p0_55 := cell_far p0_44 hgA (fun h => by have := (xx.out _ h.symm).1; have := (xx.out _ h.symm).2; simp only at *; omega)
    have p1_56 := cell_far p1_45 hgA (fun h => by have := (xx.out _ h.symm).1; have := (xx.out _ h.symm).2; simp only at *; omega)
    have x6_57 := cell_far x6_46 hgA (fun h => by have := (xx.out _ h.symm).1; have := (xx.out _ h.symm).2; simp only at *; omega)
    have x9_58 := cell_far x9_48 hgA (fun h => by have := (xx.out _ h.symm).1; have := (xx.out _ h.symm).2; simp only at *; omega)
    have x10_59 := cell_far x10_49 hgA (fun h => by have := (xx.out _ h.symm).1; have := (xx.out _ h.symm).2; simp only at *; omega)
    have OW_60 := Lib.hid (own_grow OW_50.out hgA (fun p hp e => by have := (xw.out p hp).1; have := (xw.out p hp).2; have := (xx.out p e.symm).1; have := (xx.out p e.symm).2; omega))
    have KY_61 := Lib.hid (own_grow KY_52.out hgA (fun p hp e => by have := (xy.out p hp).1; have := (xy.out p hp).2; have := (xx.out p e.symm).1; have := (xx.out p e.symm).2; omega))
    have OG_62 := Lib.hid (own_grow OG_53.out hgA (fun p hp e => by have := (xg.out p hp).1; have := (xg.out p hp).2; have := (xx.out p e.symm).1; have := (xx.out p e.symm).2; omega))
    have ba : Below w.heap.size w wa := b_54.trans (bwA.mono (by omega))
    have zA := bwA.size
    have zA' := hgA.size
    clear p0_44 p1_45 x6_46 x8_47 x9_48 x10_49 OW_50 KX_51 KY_52 OG_53 b_54 hgA bwA
    go_wp2_with fail
    refine (mark_region3 _ m X.heap.size qs (3 * n + 1) wa (by omega) (by omega) (by omega) KY_61.out).mono ?_
    rintro e wd ⟨rfl, hgD⟩
    have bwD : Below X.heap.size wa wd := grown_below KY_61.out (by omega) hgD
    have p0_63 := cell_far p0_55 hgD (fun h => by have := (xy.out _ h.symm).1; have := (xy.out _ h.symm).2; simp only at *; omega)
    have p1_64 := cell_far p1_56 hgD (fun h => by have := (xy.out _ h.symm).1; have := (xy.out _ h.symm).2; simp only at *; omega)
    have x6_65 := cell_far x6_57 hgD (fun h => by have := (xy.out _ h.symm).1; have := (xy.out _ h.symm).2; simp only at *; omega)
    have x10_66 := cell_far x10_59 hgD (fun h => by have := (xy.out _ h.symm).1; have := (xy.out _ h.symm).2; simp only at *; omega)
    have OW_67 := Lib.hid (own_grow OW_60.out hgD (fun p hp e => by have := (xw.out p hp).1; have := (xw.out p hp).2; have := (xy.out p e.symm).1; have := (xy.out p e.symm).2; omega))
    have OG_68 := Lib.hid (own_grow OG_62.out hgD (fun p hp e => by have := (xg.out p hp).1; have := (xg.out p hp).2; have := (xy.out p e.symm).1; have := (xy.out p e.symm).2; omega))
    have bd : Below w.heap.size w wd := ba.trans (bwD.mono (by omega))
    have zD' := hgD.size
    clear p0_55 p1_56 x6_57 x9_58 x10_59 OW_60 KY_61 OG_62 ba hgD bwD
    have hk1 : ¬ ((3 * (m : Int) + (3 * (n : Int) + 1)) < 0) := by omega
    go_wp2_with fail
    refine (HER.out _ _ _ _ _ (own_hs OG_68.out) (own_hs OW_67.out)).mono ?_
    rintro e w8 ⟨rfl, blw8⟩
    have zzw8 := blw8.size
    have p0_69 := cell_to p0_63 blw8
    have p1_70 := cell_to p1_64 blw8
    have x6_71 := cell_to x6_65 blw8
    have x10_72 := cell_to x10_66 blw8
    have OW_73 := Lib.hid (own_below OW_67.out blw8)
    have OG_74 := Lib.hid (own_below OG_68.out blw8)
    have b_75 := below_to bd blw8
    clear p0_63 p1_64 x6_65 x10_66 OW_67 OG_68 bd
    clear blw8
    go_wp2_with fail
    refine (mark_region2 _ len Y.heap.size L w8 (by omega) OG_74.out).mono ?_
    rintro e we ⟨rfl, hoE, hgE⟩
    have bwE : Below Y.heap.size w8 we := grown_below OG_74.out (by omega) hgE
    have p0_76 := cell_far p0_69 hgE (fun h => by have := (xg.out _ h.symm).1; have := (xg.out _ h.symm).2; simp only at *; omega)
    have p1_77 := cell_far p1_70 hgE (fun h => by have := (xg.out _ h.symm).1; have := (xg.out _ h.symm).2; simp only at *; omega)
    have x6_78 := cell_far x6_71 hgE (fun h => by have := (xg.out _ h.symm).1; have := (xg.out _ h.symm).2; simp only at *; omega)
    have x10_79 := cell_far x10_72 hgE (fun h => by have := (xg.out _ h.symm).1; have := (xg.out _ h.symm).2; simp only at *; omega)
    have OW_80 := Lib.hid (own_grow OW_73.out hgE (fun p hp e => by have := (xw.out p hp).1; have := (xw.out p hp).2; have := (xg.out p e.symm).1; have := (xg.out p e.symm).2; omega))
    have OG' := Lib.hid hoE
    have be : Below w.heap.size w we := b_75.trans (bwE.mono (by omega))
    have zE' := hgE.size
    clear p0_69 p1_70 x6_71 x10_72 OW_73 OG_74 b_75 hgE bwE hoE
    go_wp2_with fail
    refine (held_region ag len cg we (by omega) (own_hs OG'.out)).mono ?_
    rintro e w9 ⟨rfl, blw9⟩
    have zzw9 := blw9.size
    have p0_81 := cell_to p0_76 blw9
    have p1_82 := cell_to p1_77 blw9
    have x6_83 := cell_to x6_78 blw9
    have x10_84 := cell_to x10_79 blw9
    have OW_85 := Lib.hid (own_below OW_80.out blw9)
    have OG_86 := Lib.hid (own_below OG'.out blw9)
    have b_87 := below_to be blw9
    clear p0_76 p1_77 x6_78 x10_79 OW_80 OG' be
    clear blw9
    have hk2 : ¬ ((3 * (len : Int) + 1) < 0) := by omega
    go_wp2_with fail
    go_cut [15, 16] from 94 to 101 (fun s6 s7 wx => BoxR w9 L len s6 wx ∧ s7 = .bool R)
    case first =>
      go_region_held3 (fun w' => w'.cell? ⟨w.heap.size, 0, none⟩ = some (.slice a n ca) ∧ w'.cell? ⟨w.heap.size + 1, 0, none⟩ = some (.slice b m cb))
        ((refine twoc p0_81 p1_82 ?_; repeat (first | exact Below.refl _ _ | refine Below.setCell ?_ (by first | (simp; done) | (simp; omega)) _ | refine below_bx2 ?_ _ | refine below_drw ?_ | refine below_to ?_ (by assumption))))
        (first
          | (go_at_call 11; (with_reducible refine (HTA.out _ ?_).mono ?_); (focus (repeat (first | exact b_87 | refine below_bx2 ?_ _ | refine below_drw ?_ | refine below_to ?_ (by assumption)))); rintro e wA ⟨aA, cA, rfl, hoA, blA⟩; have hsA := blA.size; (try simp at hsA))
          | (go_at_call 11; (with_reducible refine (HTB.out _ ?_).mono ?_); (focus (repeat (first | exact b_87 | refine below_bx2 ?_ _ | refine below_drw ?_ | refine below_to ?_ (by assumption)))); rintro e wB ⟨aB, cB, rfl, hoB, blB⟩; have hsB := blB.size; (try simp at hsB))
          | (go_at_call 17; (with_reducible refine (HI.out _ _ _ _ _ ?_ ?_).mono ?_); (focus ((refine (own_hs hoA).below ?_); repeat (first | exact Below.refl _ _ | refine below_bx2 ?_ _ | refine below_drw ?_ | refine below_to ?_ (by assumption)))); (focus ((refine (own_hs hoB).below ?_); repeat (first | exact Below.refl _ _ | refine below_bx2 ?_ _ | refine below_drw ?_ | refine below_to ?_ (by assumption)))); rintro e wC ⟨aC, cC, rfl, hoC, blC⟩; obtain ⟨hcC, hfC⟩ := bcl3 blC; obtain ⟨hcD, hfD⟩ := bcl3 (blx_next (Y := wC) blB (by refine below_to ?_ blC; repeat (first | exact Below.refl _ _ | refine below_bx2 ?_ _ | refine below_drw ?_))); obtain ⟨hcE, hfE⟩ := bcl3 (blx_next (Y := wC) blA (by refine below_to ?_ blC; repeat (first | exact Below.refl _ _ | refine below_bx2 ?_ _ | refine below_drw ?_ | refine below_to ?_ blB))); have hsC := blC.size; (try simp at hsC)))
      all_goals
        go_wp2_with fail
        go_meet
        refine ⟨?_, rfl⟩
        first
          | exact BoxR.last hoC (by first | exact Nat.le_refl _ | omega | (simp; omega) | (simp; done)) (by repeat (first | exact Below.refl _ _ | refine below_bx2 ?_ _ | refine below_drw ?_ | refine below_to ?_ (by assumption)))
          | exact BoxR.early (U := wB) (x := .slice none 0 0) blC (by first | exact Nat.le_refl _ | omega | (simp; omega) | (simp; done)) hoC (by first | exact Nat.le_refl _ | omega | (simp; omega) | (simp; done)) (by repeat (first | exact Below.refl _ _ | refine below_bx2 ?_ _ | refine below_drw ?_ | refine below_to ?_ (by assumption)))
          | exact BoxR.early (U := wA) (x := .slice none 0 0) (by repeat (first | exact Below.refl _ _ | refine below_bx2 ?_ _ | refine below_drw ?_ | refine below_to ?_ (by assumption))) (by first | exact Nat.le_refl _ | omega | (simp; omega) | (simp; done)) hoC (by first | exact Nat.le_refl _ | omega | (simp; omega) | (simp; done)) (by repeat (first | exact Below.refl _ _ | refine below_bx2 ?_ _ | refine below_drw ?_ | refine below_to ?_ (by assumption)))
          | exact BoxR.early (U := w9) (x := .slice none 0 0) (by repeat (first | exact Below.refl _ _ | refine below_bx2 ?_ _ | refine below_drw ?_ | refine below_to ?_ (by assumption))) (by first | exact Nat.le_refl _ | omega | (simp; omega) | (simp; done)) hoC (by first | exact Nat.le_refl _ | omega | (simp; omega) | (simp; done)) (by repeat (first | exact Below.refl _ _ | refine below_bx2 ?_ _ | refine below_drw ?_ | refine below_to ?_ (by assumption)))
    case rest =>
      rename World => wz
      obtain ⟨⟨gh, ah, ch, rfl, hgh, hhh, hoh, hbh⟩, rfl⟩ := hcut
      have xh : wz.cell? ⟨gh, 0, none⟩ = some (.slice ah len ch) := cell_of_row _ _ 0 _ _ _ hhh
      have b20 := below_to b_87 hbh
      have y6 := cell_to x6_83 hbh
      have y10 := cell_to x10_84 hbh
      have QW := Lib.hid (own_below OW_85.out hbh)
      have QG := Lib.hid (own_below OG_86.out hbh)
      have QH := Lib.hid hoh
      clear hhh hoh hbh
      go_wp2_with fail
      refine (HER.out _ _ _ _ _ (own_hs QH.out) (own_hs QW.out)).mono ?_
      rintro e wy ⟨rfl, bly⟩
      have b21 := below_to b20 bly
      have z10 := cell_to y10 bly
      have RG := Lib.hid (own_below QG.out bly)
      clear b20 y6 y10 QW QG QH bly xh
      go_wp2_with fail
      refine (held_region ag len cg wy (by omega) (own_hs RG.out)).mono ?_
      rintro e wt ⟨rfl, blt⟩
      have b22 := below_to b21 blt
      clear b21 z10 RG blt
      go_wp2
      go_ret
      exact ⟨rfl, b22⟩
set_option maxRecDepth 100000 in
set_option maxHeartbeats 1600000 in
theorem law_ero2 (a : Option Addr) (n ca : Nat) (ps : List H3) (b : Option Addr) (m cb : Nat) (qs : List H3) (w : World) (hl : ps.length = n) (hn : n ≤ maxLen) (h64 : ∀ h ∈ ps, In64 h) (hA : HsAt w a ps) (hk : qs.length = m) (hm : m ≤ maxLen) (k64 : ∀ h ∈ qs, In64 h) (hB : HsAt w b qs) :
    Calls Try.prog 4 #[.agg #[.slice a n ca], .agg #[.slice b m cb]] w fun e w' => e = .returned (.bool true) ∧ Below w.heap.size w w' := by
  by_cases hle : (n : Int) ≤ 1048576
  · by_cases hle2 : (m : Int) ≤ 1048576 - n
    · exact law_ero a b n m ca cb ps qs w hl hn h64 hA hk hm k64 hB (by omega)
    · have HZA := Lib.hid (fun V => sz_region a n ca V hn 1048576 (by omega) (by omega) (1048576 - n) (by rw [if_pos hle]))
      have HZB := Lib.hid (fun V => sz_region b m cb V hm (1048576 - n) (by omega) (by omega) (-1) (by rw [if_neg hle2]))
      clear hn hm hA hB hl hk h64 k64 hle2
      go_enter Try.func4, Try.ntmps4
      go_wp2_with fail
      have b0 := below_bx2 (below_one w (.cells #[.slice a n ca] 24)) (.cells #[.slice b m cb] 24)
      have q1 : ((w.alloc (.cells #[.slice a n ca] 24)).alloc (.cells #[.slice b m cb] 24)).cell? ⟨w.heap.size + 1, 0, none⟩ = some (.slice b m cb) := by simp
      generalize (w.alloc (.cells #[.slice a n ca] 24)).alloc (.cells #[.slice b m cb] 24) = V at *
      refine (HZA.out _).mono ?_
      rintro e w1 ⟨rfl, bl1⟩
      have b1 := below_to b0 bl1
      have p1 := cell_to q1 bl1
      clear bl1 b0 q1
      have hz1 : ¬ ((1048576 - (n : Int)) < 0) := by omega
      go_wp2_with fail
      refine (HZB.out _).mono ?_
      rintro e w2 ⟨rfl, bl2⟩
      have b2 := below_to b1 bl2
      go_wp2
      go_ret
      exact ⟨rfl, b2⟩
  · have HZA := Lib.hid (fun V => sz_region a n ca V hn 1048576 (by omega) (by omega) (-1) (by rw [if_neg hle]))
    clear hn hm hA hB hl hk h64 k64 hle
    go_enter Try.func4, Try.ntmps4
    go_wp2_with fail
    have b0 := below_bx2 (below_one w (.cells #[.slice a n ca] 24)) (.cells #[.slice b m cb] 24)
    generalize (w.alloc (.cells #[.slice a n ca] 24)).alloc (.cells #[.slice b m cb] 24) = V at *
    refine (HZA.out _).mono ?_
    rintro e w1 ⟨rfl, bl1⟩
    have b1 := below_to b0 bl1
    go_wp2
    go_ret
    exact ⟨rfl, b1⟩
end Go.Proofs.Ytckfmgldgjnepab
