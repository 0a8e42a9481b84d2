/- The walk of RegionFrom's law over the translation. -/
import Derived.Test.YthpnbhebojgpbaaLk
namespace Go.Proofs.Ythpnbhebojgpbaa
open Go.RowKit
open Geo (H3)

theorem regE_len (hs : List H3) : (regE hs).length ≤ 40 := by
  unfold regE
  split
  · rename_i h
    unfold okF at h
    simp only [Bool.and_eq_true, decide_eq_true_eq] at h
    exact h.2
  · simp
set_option maxRecDepth 100000 in
set_option maxHeartbeats 8000000 in
theorem law_from (a : Option Addr) (n cap : Nat) (hs : List H3) (w : World) (hl : hs.length = n) (hn : n ≤ maxLen) (h64 : ∀ h ∈ hs, In64 h) (hA : HsAt w a hs) :
    Calls Try.prog 5 #[.slice a n cap] w fun e w' => e = .returned (.bool true) ∧ Below w.heap.size w w' := by
  by_cases hle : (n : Int) ≤ 1048576
  · have HT := Lib.hid (fun V (h : Below w.heap.size w V) => to_halves a n cap hs V hl (by omega) (hA.below h))
    have HZ := Lib.hid (fun V => sz_halves a n cap V hn 1048576 (by omega) (by omega) (1048576 - n) (by rw [if_pos hle]))
    have HSF := Lib.hid (fun V a1 c1 (h0 : a1 = none → n = 0 ∧ c1 = 0) (h1 : HsAt V a1 hs) => spec_from a1 n c1 hs V hl (by omega) h64 h0 h1)
    have HIF := Lib.hid (fun V a1 c1 (h1 : HsAt V a1 hs) => impl_from a1 n c1 hs V hl (by omega) h64 h1)
    have HQ := Lib.hid (fun V a1 a2 c1 c2 (h1 : HsAt V a1 hs) (h2 : HsAt V a2 hs) => eq_halves a1 a2 n c1 c2 hs V hl (by omega) h1 h2)
    have HL := Lib.hid hl
    have hm40 := regE_len hs
    have HER := Lib.hid (fun V a1 a2 c1 c2 (h1 : HsAt V a1 (regE hs)) (h2 : HsAt V a2 (regE hs)) => eq_region a1 a2 (regE hs).length c1 c2 (regE hs) V rfl (by omega) h1 h2)
    clear hn hA hl h64
    go_enter Try.func5, Try.ntmps5
    go_wp2_with fail
    refine (HZ.out _).mono ?_
    rintro e w0 ⟨rfl, rfl⟩
    go_wp2_with fail
    refine (HT.out _ (Below.refl _ _)).mono ?_
    rintro e w1 ⟨v1, rfl, ho1, bl1⟩
    rw [HL.out] at ho1
    obtain ⟨a1, c1, rfl⟩ := own_slice ho1
    have b1 := bl1
    have N1 := Lib.hid (own_nil ho1)
    have A1 := Lib.hid (own_hs ho1)
    clear ho1 bl1
    go_wp2_with fail
    refine (HSF.out _ _ _ N1.out A1.out).mono ?_
    rintro e w2 ⟨aw, cw, rfl, how, bl2⟩
    have b2 := below_to b1 bl2
    have OW := Lib.hid how
    clear how bl2 A1 N1 b1
    generalize hme : (regE hs).length = m at *
    generalize hoe : okF hs = r at *
    have HME := Lib.hid hme
    have HOE := Lib.hid hoe
    clear hme hoe
    -- w0, its box t4
    go_wp2_with fail
    have bB := below_bx2 b2 (.cells #[.slice aw m cw] 26)
    have q4 : (w2.alloc (.cells #[.slice aw m cw] 26)).cell? ⟨w2.heap.size, 0, none⟩ = some (.slice aw m cw) := by simp
    have OW2 := Lib.hid (own_below OW.out (below_one w2 (.cells #[.slice aw m cw] 26)))
    have z1 := b2.size
    clear OW b2
    generalize w2.alloc (.cells #[.slice aw m cw] 26) = U at *
    obtain ⟨bx, hbx⟩ : ∃ b, w2.heap.size = b := ⟨_, rfl⟩
    rw [hbx] at q4 z1 ⊢
    clear hbx
    refine (HT.out _ bB).mono ?_
    rintro e w3 ⟨v3, rfl, ho3, bl3⟩
    rw [HL.out] at ho3
    obtain ⟨a3, c3, rfl⟩ := own_slice ho3
    have O3 := Lib.hid ho3
    clear ho3
    go_wp2_with fail
    refine (HIF.out _ _ _ (own_hs O3.out)).mono ?_
    rintro e w4 ⟨ag, cg, rfl, hog, bl4⟩
    rw [HME.out] at hog ⊢
    rw [HOE.out]
    have OG := Lib.hid hog
    have zU := bl3.size
    have z3 := bl4.size
    have x3 := Lib.hid (fun p (h : (Value.slice a3 n c3).ownBlock = some p) => own_block_lt O3.out h)
    have xg := Lib.hid (fun p (h : (Value.slice ag m cg).ownBlock = some p) => own_block_lt OG.out h)
    have xw := Lib.hid (fun p (h : (Value.slice aw m cw).ownBlock = some p) => own_block_lt OW2.out h)
    have lbx := block_lt_of_cell q4
    simp only at lbx
    have bl5 := below_to (below_to bl3 bl4) (below_one w4 (.cells #[.slice ag m cg] 26))
    have p4 := cell_to q4 bl5
    have p7 : (w4.alloc (.cells #[.slice ag m cg] 26)).cell? ⟨w4.heap.size, 0, none⟩ = some (.slice ag m cg) := by simp
    have PW := Lib.hid (own_below OW2.out bl5)
    have P3 := Lib.hid (own_below O3.out (below_to bl4 (below_one w4 (.cells #[.slice ag m cg] 26))))
    have PG := Lib.hid (own_below OG.out (below_one w4 (.cells #[.slice ag m cg] 26)))
    have b5 := below_to bB bl5
    clear hog OG O3 OW2 bl3 bl4 bl5 q4 bB
    go_wp2_with fail
    generalize w4.alloc (.cells #[.slice ag m cg] 26) = X at *
    obtain ⟨b7, hb7⟩ : ∃ b, w4.heap.size = b := ⟨_, rfl⟩
    rw [hb7] at p7 z3 xg ⊢
    clear hb7
    refine (HER.out _ _ _ _ _ (own_hs PG.out) (own_hs PW.out)).mono ?_
    rintro e w5 ⟨rfl, bl5⟩
    have p4' := cell_to p4 bl5
    have p7' := cell_to p7 bl5
    have QW := Lib.hid (own_below PW.out bl5)
    have Q3 := Lib.hid (own_below P3.out bl5)
    have QG := Lib.hid (own_below PG.out bl5)
    have b6 := below_to b5 bl5
    clear p4 p7 PW P3 PG b5 bl5
    go_wp2_with fail
    refine (HT.out _ b6).mono ?_
    rintro e w6 ⟨v6, rfl, ho6, bl6⟩
    rw [HL.out] at ho6
    obtain ⟨a6, c6, rfl⟩ := own_slice ho6
    have A6 := Lib.hid (own_hs ho6)
    have p4 := cell_to p4' bl6
    have p7 := cell_to p7' bl6
    have PW := Lib.hid (own_below QW.out bl6)
    have P3 := Lib.hid (own_below Q3.out bl6)
    have PG := Lib.hid (own_below QG.out bl6)
    have b7' := below_to b6 bl6
    clear p4' p7' QW Q3 QG b6 bl6 ho6
    go_wp2_with fail
    refine (HQ.out _ _ _ _ _ (own_hs P3.out) A6.out).mono ?_
    rintro e w7 ⟨rfl, bl7⟩
    have p4' := cell_to p4 bl7
    have p7' := cell_to p7 bl7
    have QW := Lib.hid (own_below PW.out bl7)
    have Q3 := Lib.hid (own_below P3.out bl7)
    have QG := Lib.hid (own_below PG.out bl7)
    have b8 := below_to b7' bl7
    clear p4 p7 PW P3 PG b7' bl7 A6
    go_wp2_with fail
    refine (mark_halves2 _ n U.heap.size hs w7 (by omega) Q3.out).mono ?_
    rintro e w8 ⟨rfl, _, hg8⟩
    have bw8 : Below U.heap.size w7 w8 := grown_below Q3.out (by have := block_lt_of_cell p7'; simp only at this; omega) hg8
    have p4 := cell_far p4' hg8 (fun h => by have := (x3.out _ h.symm).1; simp only at this; omega)
    have p7 := cell_far p7' hg8 (fun h => by have := (x3.out _ h.symm).2; simp only at this; omega)
    have PW := Lib.hid (own_grow QW.out hg8 (fun p hp e => by have := (xw.out p hp).2; have := (x3.out p e.symm).1; omega))
    have PG := Lib.hid (own_grow QG.out hg8 (fun p hp e => by have := (xg.out p hp).1; have := (x3.out p e.symm).2; omega))
    have b9 : Below w.heap.size w w8 := b8.trans (bw8.mono (by omega))
    clear p4' p7' QW Q3 QG b8 hg8 bw8
    go_wp2_with fail
    refine (HER.out _ _ _ _ _ (own_hs PG.out) (own_hs PW.out)).mono ?_
    rintro e w9 ⟨rfl, bl9⟩
    have p4' := cell_to p4 bl9
    have p7' := cell_to p7 bl9
    have QW := Lib.hid (own_below PW.out bl9)
    have QG := Lib.hid (own_below PG.out bl9)
    have b10 := below_to b9 bl9
    clear p4 p7 PW PG b9 bl9
    go_wp2_with fail
    refine (mark_region2 _ m w3.heap.size (regE hs) w9 (by omega) QG.out).mono ?_
    rintro e wa ⟨rfl, hoA, hgA⟩
    have bwA : Below w3.heap.size w9 wa := grown_below QG.out (by have := block_lt_of_cell p7'; simp only at this; omega) hgA
    have p4 := cell_far p4' hgA (fun h => by have := (xg.out _ h.symm).1; simp only at this; omega)
    have p7 := cell_far p7' hgA (fun h => by have := (xg.out _ h.symm).2; simp only at this; omega)
    have PW := Lib.hid (own_grow QW.out hgA (fun p hp e => by have := (xw.out p hp).2; have := (xg.out p e.symm).1; omega))
    have PM := Lib.hid hoA
    have b11 : Below w.heap.size w wa := b10.trans (bwA.mono (by omega))
    clear p4' p7' QW QG b10 hgA bwA hoA
    go_wp2_with fail
    refine (held_region ag m cg wa (by omega) (own_hs PM.out)).mono ?_
    rintro e wb ⟨rfl, blb⟩
    have p4' := cell_to p4 blb
    have p7' := cell_to p7 blb
    have QW := Lib.hid (own_below PW.out blb)
    have QM := Lib.hid (own_below PM.out blb)
    have b12 := below_to b11 blb
    clear p4 p7 PW PM b11 blb
    go_wp2_with fail
    refine (HT.out _ b12).mono ?_
    rintro e wc ⟨vc, rfl, hoc, blc⟩
    rw [HL.out] at hoc
    obtain ⟨ac, cc, rfl⟩ := own_slice hoc
    have AC := Lib.hid (own_hs hoc)
    have p4 := cell_to p4' blc
    have p7 := cell_to p7' blc
    have PW := Lib.hid (own_below QW.out blc)
    have PM := Lib.hid (own_below QM.out blc)
    have b13 := below_to b12 blc
    clear p4' p7' QW QM b12 blc hoc
    go_wp2_with fail
    refine (HIF.out _ _ _ AC.out).mono ?_
    rintro e wd ⟨ah, ch, rfl, hoh, bld⟩
    rw [HME.out] at hoh ⊢
    rw [HOE.out]
    have bl2 := below_to bld (below_one wd (.cells #[.slice ah m ch] 26))
    have p4' := cell_to p4 bl2
    have p7' := cell_to p7 bl2
    have QW := Lib.hid (own_below PW.out bl2)
    have QM := Lib.hid (own_below PM.out bl2)
    have QH := Lib.hid (own_below hoh (below_one wd (.cells #[.slice ah m ch] 26)))
    have p12 : (wd.alloc (.cells #[.slice ah m ch] 26)).cell? ⟨wd.heap.size, 0, none⟩ = some (.slice ah m ch) := by simp
    have b14 := below_to b13 bl2
    clear p4 p7 PW PM b13 bld bl2 hoh AC
    go_wp2_with fail
    generalize wd.alloc (.cells #[.slice ah m ch] 26) = Y at *
    refine (HER.out _ _ _ _ _ (own_hs QH.out) (own_hs QW.out)).mono ?_
    rintro e we ⟨rfl, ble⟩
    have p7 := cell_to p7' ble
    have PM := Lib.hid (own_below QM.out ble)
    have b15 := below_to b14 ble
    clear p4' p7' QW QM QH b14 ble p12
    go_wp2_with fail
    refine (held_region ag m cg we (by omega) (own_hs PM.out)).mono ?_
    rintro e wf ⟨rfl, blf⟩
    have b16 := below_to b15 blf
    clear p7 PM b15 blf
    go_wp2
    go_ret
    exact ⟨rfl, b16⟩
  · have HZ := Lib.hid (fun V => sz_halves a n cap V hn 1048576 (by omega) (by omega) (-1) (by rw [if_neg hle]))
    clear hn hA hl hle h64
    go_enter Try.func5, Try.ntmps5
    go_wp2_with fail
    refine (HZ.out _).mono ?_
    rintro e w1 ⟨rfl, rfl⟩
    go_wp2
    go_ret
    exact ⟨rfl, Below.refl _ _⟩
end Go.Proofs.Ythpnbhebojgpbaa
