/- The walk of the law of CornersOf. -/
import Derived.Test.YtobmaajfdpcfmaaCt
namespace Go.Proofs.Ytobmaajfdpcfmaa
open Go.RowKit
open Geo (H3)

theorem corR_le {hs : List H3} {n : Nat} (hl : hs.length = n) : (corR hs).length ≤ n := by
  unfold corR; split
  · rw [corL_len]; omega
  · simp
set_option maxRecDepth 100000 in
set_option maxHeartbeats 3200000 in
theorem law_cor (a : Option Addr) (n cap : Nat) (hs : List H3) (w : World) (hl : hs.length = n) (hn : n ≤ maxLen) (h64 : ∀ h ∈ hs, In64 h) (hA : HsAt w a hs) :
    Calls Try.prog 7 #[.agg #[.slice a n cap]] w fun e w' => e = .returned (.bool true) ∧ Below w.heap.size w w' := by
  by_cases hle : (n : Int) ≤ 1048576
  · have HT := Lib.hid (fun V (h : Below w.heap.size w V) => to_region2 a n cap hs V hl (by omega) (hA.below h))
    have HE := Lib.hid (fun V a1 a2 c1 c2 (h1 : HsAt V a1 hs) (h2 : HsAt V a2 hs) => eq_region a1 a2 n c1 c2 hs V hl (by omega) h1 h2)
    have HZ := Lib.hid (fun V => sz_region a n cap V hn 1048576 (by omega) (by omega) (1048576 - n) (by rw [if_pos hle]))
    have HS := Lib.hid (fun V a1 c1 (h0 : a1 = none → n = 0 ∧ c1 = 0) (h1 : HsAt V a1 hs) => spec_cor a1 n c1 hs V hl (by omega) h64 h0 h1)
    have HI := Lib.hid (fun V a1 c1 (h1 : HsAt V a1 hs) => impl_cor a1 n c1 hs V hl (by omega) h64 h1)
    have hm := corR_le hl
    have HQ := Lib.hid (fun V a1 a2 c1 c2 (h1 : HsAt V a1 (corR hs)) (h2 : HsAt V a2 (corR hs)) => eq_spots a1 a2 (corR hs).length c1 c2 (corR hs) V rfl (by omega) h1 h2)
    unfold SpW at HS HI
    generalize corR hs = ps at *
    generalize ps.length = m at *
    clear hn hA hl h64
    go_enter Try.func7, Try.ntmps7
    go_wp2_with fail
    refine (HZ.out _).mono ?_
    rintro e w1 ⟨rfl, bl1⟩
    have q1 := cell_to (show (w.alloc (.cells #[.slice a n cap] 60)).cell? ⟨w.heap.size, 0, none⟩ = some (.slice a n cap) by simp) bl1
    have b1 := below_to (below_one _ _) bl1
    clear bl1
    go_wp2_with fail
    refine (HT.out _ b1).mono ?_
    rintro e w2 ⟨ao2, cp2, rfl, ho2, bl2⟩
    have b2 := below_to b1 bl2
    have q2 := cell_to q1 bl2
    have N2 := Lib.hid (own_nil ho2)
    have A2 := Lib.hid (own_hs ho2)
    clear ho2 bl2 b1 q1
    go_wp2_with fail
    refine (HS.out _ _ _ N2.out A2.out).mono ?_
    rintro e w3 ⟨aw, cw, rfl, how, bl3⟩
    have b3 := below_to b2 bl3
    have q3 := cell_to q2 bl3
    have OW := Lib.hid how
    have xw := Lib.hid (fun p (h : (Value.slice aw m cw).ownBlock = some p) => own_block_lt OW.out h)
    have z2 := b2.size
    have z3 := bl3.size
    have l3 := block_lt_of_cell q3
    simp only at l3
    clear bl3 b2 q2 N2 A2 how
    go_wp2_with fail
    refine (HT.out _ b3).mono ?_
    rintro e w4 ⟨ax, cx, rfl, ho4, bl4⟩
    have H4 := Lib.hid ho4
    have xx := Lib.hid (fun p (h : (Value.slice ax n cx).ownBlock = some p) => own_block_lt H4.out h)
    have blx := below_to bl4 (below_one w4 (.cells #[.slice ax n cx] 26))
    have bX := below_to b3 blx
    have qX := cell_to q3 blx
    have OX := Lib.hid (own_below OW.out blx)
    have KX := Lib.hid (own_below H4.out (below_one w4 (.cells #[.slice ax n cx] 26)))
    have x5 : (w4.alloc (.cells #[.slice ax n cx] 26)).cell? ⟨w4.heap.size, 0, none⟩ = some (.slice ax n cx) := by simp
    have z4 := bl4.size
    have zX : (w4.alloc (.cells #[.slice ax n cx] 26)).heap.size = w4.heap.size + 1 := by simp
    clear ho4 bl4 b3 q3 OW H4 blx
    go_wp2_with fail
    generalize w4.alloc (.cells #[.slice ax n cx] 26) = X at *
    obtain ⟨bx, hbx⟩ : ∃ b, w4.heap.size = b := ⟨_, rfl⟩
    rw [hbx] at x5 zX z4 xx ⊢
    clear hbx
    refine (HI.out _ _ _ (own_hs KX.out)).mono ?_
    rintro e w5 ⟨ag, cg, rfl, hog, bl5⟩
    have OG := Lib.hid hog
    have xg := Lib.hid (fun p (h : (Value.slice ag m cg).ownBlock = some p) => own_block_lt OG.out h)
    have b5 := below_to bX bl5
    have q5 := cell_to qX bl5
    have y5 := cell_to x5 bl5
    have O5 := Lib.hid (own_below OX.out bl5)
    have K5 := Lib.hid (own_below KX.out bl5)
    have z5 := bl5.size
    clear hog bl5 bX qX x5 OX KX
    go_wp2_with fail
    refine (HQ.out _ _ _ _ _ (own_hs OG.out) (own_hs O5.out)).mono ?_
    rintro e w6 ⟨rfl, bl6⟩
    have b6 := below_to b5 bl6
    have q6 := cell_to q5 bl6
    have y6 := cell_to y5 bl6
    have O6 := Lib.hid (own_below O5.out bl6)
    have K6 := Lib.hid (own_below K5.out bl6)
    have G6 := Lib.hid (own_below OG.out bl6)
    have z6 := bl6.size
    clear bl6 b5 q5 y5 O5 K5 OG
    go_wp2
    go_region_held3 (fun w' => w'.cell? ⟨bx, 0, none⟩ = some (.slice ax n cx) ∧ w'.cell? ⟨w.heap.size, 0, none⟩ = some (.slice a n cap))
      ((refine twoc y6 q6 ?_; repeat (first | exact Below.refl _ _ | refine below_drw ?_ | refine below_to ?_ (by assumption))))
      (first | (go_at_call 43; (with_reducible refine (HT.out _ ?_).mono ?_); (focus (repeat (first | exact b6 | refine below_drw ?_ | refine below_to ?_ (by assumption)))); rintro e w7 ⟨ao7, cp7, rfl, ho7, bl7⟩) | (go_at_call 45; (with_reducible refine (HE.out _ _ _ _ _ ?_ ?_).mono ?_); (focus ((refine (own_hs K6.out).below ?_); repeat (first | exact Below.refl _ _ | refine below_drw ?_ | refine below_to ?_ (by assumption)))); (focus (exact own_hs ho7)); rintro e w8 ⟨rfl, bl8⟩))
    have bl9 : Below w6.heap.size w6 w8 := below_to (below_to (below_drw (Below.refl _ _)) bl7) bl8
    have b8 := below_to b6 bl9
    have q8 := cell_to q6 bl9
    have y8 := cell_to y6 bl9
    have O8 := Lib.hid (own_below O6.out bl9)
    have K8 := Lib.hid (own_below K6.out bl9)
    have G8 := Lib.hid (own_below G6.out bl9)
    have z8 := bl9.size
    clear bl7 bl8 bl9 ho7 b6 q6 y6 O6 K6 G6
    go_wp2_with fail
    refine (mark_region2 _ n w3.heap.size hs w8 (by omega) K8.out).mono ?_
    rintro e wa ⟨rfl, hoA, hgA⟩
    have bwA : Below w3.heap.size w8 wa := grown_below K8.out (by omega) hgA
    have qa := cell_far q8 hgA (fun h => by have := (xx.out _ h.symm).1; simp only at this; omega)
    have OA := Lib.hid (own_grow O8.out hgA (fun p hp e => by have := (xw.out p hp).2; have := (xx.out p e.symm).1; omega))
    have GA := Lib.hid (own_grow G8.out hgA (fun p hp e => by have := (xg.out p hp).1; have := (xx.out p e.symm).2; omega))
    have ba : Below w.heap.size w wa := b8.trans (bwA.mono (by omega))
    have zA := hgA.size
    clear q8 y8 O8 K8 G8 b8 hgA bwA hoA
    have hnn : ¬ ((3 * (n : Int) + 1) < 0) := by omega
    go_wp2_with fail
    refine (HQ.out _ _ _ _ _ (own_hs GA.out) (own_hs OA.out)).mono ?_
    rintro e wb ⟨rfl, blb⟩
    have bb := below_to ba blb
    have qb := cell_to qa blb
    have OB := Lib.hid (own_below OA.out blb)
    have GB := Lib.hid (own_below GA.out blb)
    have zb := blb.size
    clear ba qa OA GA blb
    go_wp2_with fail
    refine (mark_spots _ m X.heap.size ps wb (by omega) GB.out).mono ?_
    rintro e wd ⟨rfl, hoD, hgD⟩
    have bwD : Below X.heap.size wb wd := grown_below GB.out (by omega) hgD
    have qd := cell_far qb hgD (fun h => by have := (xg.out _ h.symm).1; simp only at this; omega)
    have OD := Lib.hid (own_grow OB.out hgD (fun p hp e => by have := (xw.out p hp).2; have := (xg.out p e.symm).1; omega))
    have GD := Lib.hid hoD
    have bd : Below w.heap.size w wd := bb.trans (bwD.mono (by omega))
    clear bb qb OB GB hoD hgD bwD
    go_wp2_with fail
    refine (held_spots ag m cg wd (by omega) (own_hs GD.out)).mono ?_
    rintro e wd' ⟨rfl, rfl⟩
    have hmm : ¬ ((3 * (m : Int) + 1) < 0) := by omega
    go_wp2_with fail
    refine (HT.out _ bd).mono ?_
    rintro e we ⟨ae, ce, rfl, hoe, ble⟩
    have be := below_to bd ble
    have OE := Lib.hid (own_below OD.out ble)
    have GE := Lib.hid (own_below GD.out ble)
    have AE := Lib.hid (own_hs hoe)
    clear bd qd OD GD ble hoe
    go_wp2_with fail
    refine (HI.out _ _ _ AE.out).mono ?_
    rintro e wf ⟨af, cf, rfl, hof, blf⟩
    have bf := below_to be blf
    have OF := Lib.hid (own_below OE.out blf)
    have GF := Lib.hid (own_below GE.out blf)
    have HF := Lib.hid (own_hs hof)
    clear be OE GE AE blf hof
    go_wp2_with fail
    refine (HQ.out _ _ _ _ _ HF.out (own_hs OF.out)).mono ?_
    rintro e wg ⟨rfl, blg⟩
    have bg := below_to bf blg
    have GG := Lib.hid (own_below GF.out blg)
    clear bf OF GF HF blg
    go_wp2_with fail
    refine (held_spots ag m cg wg (by omega) (own_hs GG.out)).mono ?_
    rintro e wg' ⟨rfl, rfl⟩
    go_wp2
    go_ret
    exact ⟨rfl, bg⟩
  · have HZ := Lib.hid (fun V => sz_region a n cap V hn 1048576 (by omega) (by omega) (-1) (by rw [if_neg hle]))
    clear hn hA hl hle h64
    go_enter Try.func7, Try.ntmps7
    go_wp2_with fail
    refine (HZ.out _).mono ?_
    rintro e w1 ⟨rfl, bl1⟩
    go_wp2
    go_ret
    exact ⟨rfl, below_to (below_one _ _) bl1⟩
end Go.Proofs.Ytobmaajfdpcfmaa
