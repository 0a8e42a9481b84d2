/- The contract of the program's RatioCmp over the translation. The contracts of both RatioCmp functions at every input, and the walk of their law. The contract of the program's RatioOf and of the model's, where there is a valid fraction, over the translation. -/
import Derived.Test.YtibkmhmeoelpdaaQty
import Derived.Deep.CutRange
import Derived.WalkMore
import Derived.StillTailTactics
import Derived.Deep.RegionWith
namespace Go.Proofs.Ytibkmhmeoelpdaa
open Go.RowKit

theorem heap_below {w w' : World} {g : Nat} {o : Obj} (hb : Below w.heap.size w w') (h : w.heap[g]? = some o) : w'.heap[g]? = some o := by
  rw [hb.block g (lt_of_block h)]; exact h

/-- cmp.Compare at int -/
def cmpI (a b : Int) : Int := if a < b then -1 else if b < a then 1 else 0
set_option maxHeartbeats 800000 in
theorem compare (a b : Int) (w : World) :
    Calls Try.prog 58 #[.int .i64 a, .int .i64 b] w fun e w' => e = .returned (.int .i64 (cmpI a b)) ∧ w' = w := by
  by_cases h1 : a < b
  · have HV := Lib.hid (show cmpI a b = -1 from if_pos h1)
    go_enter Try.func58, Try.ntmps58
    go_wp2
    go_ret
    exact ⟨ret_int HV.out.symm, rfl⟩
  · by_cases h2 : b < a
    · have HV := Lib.hid (show cmpI a b = 1 by unfold cmpI; rw [if_neg h1, if_pos h2])
      go_enter Try.func58, Try.ntmps58
      go_wp2
      go_ret
      exact ⟨ret_int HV.out.symm, rfl⟩
    · obtain rfl : a = b := by omega
      have HV := Lib.hid (show cmpI a a = 0 by unfold cmpI; rw [if_neg h1, if_neg h1])
      go_enter Try.func58, Try.ntmps58
      go_wp2
      go_ret
      exact ⟨ret_int HV.out.symm, rfl⟩

/-- the number in a box's second cell -/
def cellN (w : World) (g : Nat) : Nat := match w.cell? ⟨g, 1, none⟩ with | some v => (intOf v).toNat | none => 0
theorem cellN_of {w : World} {g : Nat} {y : Int} {c : Value} {T : TypeId} (h : w.heap[g]? = some (.cells #[c, .int .i64 y] T (0, 0))) : cellN w g = y.toNat := by
  unfold cellN; rw [cell_of_row w g 1 _ _ _ h]; rfl
theorem cmpI_zero (m y n v : Int) (hm : 0 ≤ m) (hn : 0 ≤ n) (hy : 1 ≤ y) (hv : 1 ≤ v) (h : m = 0 ∨ n = 0) : cmpI m n = cmpR m y n v := by
  unfold cmpI
  by_cases h1 : m = 0
  · subst h1
    by_cases h2 : n = 0
    · subst h2; rw [cmpR_zz, if_neg (by omega), if_neg (by omega)]
    · rw [cmpR_z y n v (by omega) (by omega), if_pos (by omega)]
  · obtain rfl : n = 0 := by omega
    rw [cmpR_z2 m y v (by omega) (by omega), if_neg (by omega), if_pos (by omega)]
theorem left_one {R x y u v : Int} (h : Left R x y u v 1) : cmpR x y u v = R := by unfold Left at h; omega
theorem left_turn {R m y n v : Int} (h : Left R m y n v 1) : Left R v n y m 1 := by unfold Left at *; rw [cmpR_turn]; exact h
theorem swap_boxes {w : World} {g : Nat} {x y u v : Value} {T : TypeId} (a b c d : Value) (h0 : w.heap[g]? = some (.cells #[x, y] T (0, 0))) (h1 : w.heap[g + 1]? = some (.cells #[u, v] T (0, 0))) :
    ((((w.setCell ⟨g, 0, none⟩ a).setCell ⟨g, 1, none⟩ b).setCell ⟨g + 1, 0, none⟩ c).setCell ⟨g + 1, 1, none⟩ d).heap[g]? = some (.cells #[a, b] T (0, 0)) ∧
    ((((w.setCell ⟨g, 0, none⟩ a).setCell ⟨g, 1, none⟩ b).setCell ⟨g + 1, 0, none⟩ c).setCell ⟨g + 1, 1, none⟩ d).heap[g + 1]? = some (.cells #[c, d] T (0, 0)) := by
  have a0 := heap_setCell_same w g 0 _ T a h0
  have a1 := heap_setCell_same _ g 1 _ T b a0
  have b0 := (heap_setCell_other w ⟨g, 0, none⟩ (g + 1) a (by simp)).trans h1
  have b1 := (heap_setCell_other _ ⟨g, 1, none⟩ (g + 1) b (by simp)).trans b0
  have a2 := (heap_setCell_other _ ⟨g + 1, 0, none⟩ g c (by simp)).trans a1
  have a3 := (heap_setCell_other _ ⟨g + 1, 1, none⟩ g d (by simp)).trans a2
  have b2 := heap_setCell_same _ (g + 1) 0 _ T c b1
  have b3 := heap_setCell_same _ (g + 1) 1 _ T d b2
  exact ⟨a3, b3⟩
theorem below_drew1 {w w' : World} (h : Below w.heap.size w w') : Below w.heap.size w w'.drew := below_drew h 1

set_option maxHeartbeats 4000000 in
theorem impl_cmp_loop (a b c d : Int) (w : World) (ha : -1000000000000000000 ≤ a) (ha2 : a ≤ 1000000000000000000) (hb : 1 ≤ b) (hb2 : b ≤ 1000000000000000000) (hc : -1000000000000000000 ≤ c) (hc2 : c ≤ 1000000000000000000) (hd : 1 ≤ d) (hd2 : d ≤ 1000000000000000000)
    (h1 : okR a b = true) (h2 : okR c d = true) :
    Calls Try.prog 37 #[.agg #[.int .i64 a, .int .i64 b], .agg #[.int .i64 c, .int .i64 d]] w fun e w' => e = .returned (.int .i64 (cmpR a b c d)) ∧ Below w.heap.size w w' := by
  have H1 := Lib.hid h1
  have H2 := Lib.hid h2
  clear h1 h2
  have hw : Below w.heap.size w ((w.alloc (.cells #[.int .i64 a, .int .i64 b] 27)).alloc (.cells #[.int .i64 c, .int .i64 d] 27)) := below_box2 (below_box _ _) _
  have g0 : ((w.alloc (.cells #[.int .i64 a, .int .i64 b] 27)).alloc (.cells #[.int .i64 c, .int .i64 d] 27)).heap[w.heap.size]? = some (.cells #[.int .i64 a, .int .i64 b] 27 (0, 0)) := heap_alloc2_old w _ _
  have g1 : ((w.alloc (.cells #[.int .i64 a, .int .i64 b] 27)).alloc (.cells #[.int .i64 c, .int .i64 d] 27)).heap[w.heap.size + 1]? = some (.cells #[.int .i64 c, .int .i64 d] 27 (0, 0)) := heap_alloc2_new w _ _
  have G0 := Lib.hid g0
  have G1 := Lib.hid g1
  clear g0 g1
  go_enter Try.func37, Try.ntmps37
  go_wp2_with fail
  go_step3
  go_wp2_with fail
  refine (impl_ok a b _ (by omega) (by omega) (by omega) (by omega)).mono ?_
  rw [H1.out]
  rintro e w1 ⟨rfl, bl1⟩
  obtain ⟨p0, p1, p2, p3, hz1⟩ := boxed2 bl1
  go_wp2_with fail
  refine (impl_ok c d _ (by omega) (by omega) (by omega) (by omega)).mono ?_
  rw [H2.out]
  rintro e w2 ⟨rfl, bl2⟩
  have bl12 := bl1.trans (bl2.mono bl1.size)
  clear p0 p1 p2 p3
  have hbw := hw.trans (bl12.mono hw.size)
  have K0 := Lib.hid (heap_below bl12 G0.out)
  have K1 := Lib.hid (heap_below bl12 G1.out)
  clear bl1 bl2 bl12 hw hz1
  go_wp2_with fail
  go_step3
  go_wp2_with fail
  go_loopw [5, 6, 7] (fun o _ _ wr => ∃ x y u v : Int, o = .int .i64 0 ∧ wr.heap[w.heap.size]? = some (.cells #[.int .i64 x, .int .i64 y] 27 (0, 0)) ∧ wr.heap[w.heap.size + 1]? = some (.cells #[.int .i64 u, .int .i64 v] 27 (0, 0)) ∧ Below w.heap.size w wr ∧ -1000000000000000000 ≤ x ∧ x ≤ 1000000000000000000 ∧ 1 ≤ y ∧ y ≤ 1000000000000000000 ∧ -1000000000000000000 ≤ u ∧ u ≤ 1000000000000000000 ∧ 1 ≤ v ∧ v ≤ 1000000000000000000 ∧ Left (cmpR a b c d) x y u v 1) (fun _ _ _ wr => cellN wr w.heap.size + cellN wr (w.heap.size + 1))
  case atStart => exact ⟨a, b, c, d, rfl, K0.out, K1.out, hbw, by omega, by omega, by omega, by omega, by omega, by omega, by omega, by omega, by unfold Left; omega⟩
  case round =>
    obtain ⟨x, y, u, v, rfl, k0, k1, hbr, hx, hx2, hy, hy2, hu, hu2, hv, hv2, hL⟩ := hrel
    have c0 : wr.cell? ⟨w.heap.size, 0, none⟩ = some (.int .i64 x) := cell_of_row wr _ _ _ _ _ k0
    have c1 : wr.cell? ⟨w.heap.size, 1, none⟩ = some (.int .i64 y) := cell_of_row wr _ _ _ _ _ k0
    have c2 : wr.cell? ⟨w.heap.size + 1, 0, none⟩ = some (.int .i64 u) := cell_of_row wr _ _ _ _ _ k1
    have c3 : wr.cell? ⟨w.heap.size + 1, 1, none⟩ = some (.int .i64 v) := cell_of_row wr _ _ _ _ _ k1
    have hz := lt_of_block k1
    have MW := Lib.hid (show cellN wr w.heap.size + cellN wr (w.heap.size + 1) = y.toNat + v.toNat by rw [cellN_of k0, cellN_of k1])
    have HL := Lib.hid hL
    have L0 := Lib.hid k0
    have L1 := Lib.hid k1
    clear hL k0 k1 ha ha2 hb hb2 hc hc2 hd hd2 H1 H2 K0 K1 G0 G1 hbw
    obtain ⟨f1, f2⟩ := floor_range x y (by omega) hx hx2
    obtain ⟨f3, f4⟩ := floor_range u v (by omega) hu hu2
    obtain ⟨r1, r2⟩ := rest_bounds x y (by omega)
    obtain ⟨r3, r4⟩ := rest_bounds u v (by omega)
    go_upto_region 4 with fail
    go_cut [6, 7] from 16 to 66 (fun s6 s7 wx => s6 = .int .i64 (x / y) ∧ s7 = .int .i64 (u / v) ∧ Below wr.heap.size wr wx)
    case first =>
      go_region_with (go_at_call 71; refine (whole _ _ _ (by omega) (by omega) (by omega) (by omega)).mono ?_; rintro e w3 ⟨rfl, rfl⟩)
      all_goals
        go_wp2_with fail
        go_meet
        exact ⟨rfl, rfl, below_drew1 (below_box2 (below_box _ _) _)⟩
    case rest =>
      obtain ⟨rfl, rfl, hbx⟩ := hcut
      have k0 := heap_below hbx L0.out
      have k1 := heap_below hbx L1.out
      have hbc : Below w.heap.size w wc := hbr.trans (hbx.mono hbr.size)
      clear c0 c1 c2 c3 hz hbx hbr L0 L1
      have c0 : wc.cell? ⟨w.heap.size, 0, none⟩ = some (.int .i64 x) := cell_of_row wc _ _ _ _ _ k0
      have c1 : wc.cell? ⟨w.heap.size, 1, none⟩ = some (.int .i64 y) := cell_of_row wc _ _ _ _ _ k0
      have c2 : wc.cell? ⟨w.heap.size + 1, 0, none⟩ = some (.int .i64 u) := cell_of_row wc _ _ _ _ _ k1
      have c3 : wc.cell? ⟨w.heap.size + 1, 1, none⟩ = some (.int .i64 v) := cell_of_row wc _ _ _ _ _ k1
      have z0 := frozen_of_row wc _ 0 _ _ k0
      have z1 := frozen_of_row wc _ 0 _ _ k1
      have hz := lt_of_block k1
      have L0 := Lib.hid k0
      have L1 := Lib.hid k1
      clear k0 k1
      have HP := Lib.hid (⟨cmpR_less x y u v (by omega) (by omega), cmpR_more x y u v (by omega) (by omega)⟩ : _ ∧ _)
      generalize x / y = p at *
      generalize u / v = q at *
      have HQ := Lib.hid (cmpR_rest x y u v p)
      have HM := Lib.hid (show p = q → q * v = p * v from fun h => by rw [h])
      generalize hf : p * y = py at *
      generalize hg : q * v = qv at *
      have v0 : IntKind.i64.wrap py = py := IntWalk.i64_in _ (by omega)
      have v1 : IntKind.i64.wrap qv = qv := IntWalk.i64_in _ (by omega)
      have v2 : IntKind.i64.wrap (x - py) = x - py := IntWalk.i64_in _ (by omega)
      have v3 : IntKind.i64.wrap (u - qv) = u - qv := IntWalk.i64_in _ (by omega)
      have j0 := heap_setCell_same wc w.heap.size 0 _ 27 (.int .i64 (x - py)) L0.out
      have j1 := (heap_setCell_other wc ⟨w.heap.size, 0, none⟩ (w.heap.size + 1) (.int .i64 (x - py)) (by simp)).trans L1.out
      have i1 := heap_setCell_same _ (w.heap.size + 1) 0 _ 27 (.int .i64 (u - qv)) j1
      have i0 := (heap_setCell_other _ ⟨w.heap.size + 1, 0, none⟩ w.heap.size (.int .i64 (u - qv)) (by simp)).trans j0
      have hb3 := Lib.hid ((hbc.setCell (p := ⟨w.heap.size, 0, none⟩) (by simp) (.int .i64 (x - py))).setCell (p := ⟨w.heap.size + 1, 0, none⟩) (by simp) (.int .i64 (u - qv)))
      have I0 := Lib.hid i0
      have I1 := Lib.hid i1
      clear j0 j1 i0 i1 L0 L1 hbc
      go_upto_region 5 with fail
      go_cut [6] from 16 to 66 (fun s6 wx => s6 = .int .i64 p ∧ wx.heap[w.heap.size]? = some (.cells #[.int .i64 (x - py), .int .i64 y] 27 (0, 0)) ∧ wx.heap[w.heap.size + 1]? = some (.cells #[.int .i64 (u - qv), .int .i64 v] 27 (0, 0)) ∧ Below w.heap.size w wx)
      case first =>
        go_region
        all_goals
          go_wp2_with fail
          go_meet
          exact ⟨rfl, I0.out, I1.out, below_drew1 hb3.out⟩
      case rest =>
        clear c0 c1 c2 c3 z0 z1 hz I0 I1 hb3 v0 v1 v2 v3 hf hg
        obtain ⟨rfl, k0, k1, hb3⟩ := hcut
        have c0 : wc.cell? ⟨w.heap.size, 0, none⟩ = some (.int .i64 (x - py)) := cell_of_row wc _ _ _ _ _ k0
        have c1 : wc.cell? ⟨w.heap.size, 1, none⟩ = some (.int .i64 y) := cell_of_row wc _ _ _ _ _ k0
        have c2 : wc.cell? ⟨w.heap.size + 1, 0, none⟩ = some (.int .i64 (u - qv)) := cell_of_row wc _ _ _ _ _ k1
        have c3 : wc.cell? ⟨w.heap.size + 1, 1, none⟩ = some (.int .i64 v) := cell_of_row wc _ _ _ _ _ k1
        have z0 := frozen_of_row wc _ 0 _ _ k0
        have z1 := frozen_of_row wc _ 1 _ _ k0
        have z2 := frozen_of_row wc _ 0 _ _ k1
        have z3 := frozen_of_row wc _ 1 _ _ k1
        have hz := lt_of_block k1
        have I0 := Lib.hid k0
        have I1 := Lib.hid k1
        clear k0 k1
        by_cases hpq : p < q
        · have hn := ne_b (show p ≠ q by omega)
          have HV := Lib.hid (show cmpI p q = cmpR a b c d by rw [← left_one HL.out, HP.out.1 hpq]; exact if_pos hpq)
          go_wp2_with fail
          refine (compare p q _).mono ?_
          rintro e w4 ⟨rfl, rfl⟩
          generalize cmpI p q = r at *
          go_wp2_with fail
          try rw [Exit.noGoto_ret]
          go_ret
          exact ⟨ret_int HV.out, hb3⟩
        · by_cases hqp : q < p
          · have hn := ne_b (show p ≠ q by omega)
            have HV := Lib.hid (show cmpI p q = cmpR a b c d by rw [← left_one HL.out, HP.out.2 hqp]; unfold cmpI; rw [if_neg hpq, if_pos hqp])
            go_wp2_with fail
            refine (compare p q _).mono ?_
            rintro e w4 ⟨rfl, rfl⟩
            generalize cmpI p q = r at *
            go_wp2_with fail
            try rw [Exit.noGoto_ret]
            go_ret
            exact ⟨ret_int HV.out, hb3⟩
          · obtain rfl : p = q := by omega
            clear hpq hqp
            have hQ := HQ.out
            rw [← HM.out rfl] at hQ
            have HR := Lib.hid (left_rest HL.out hQ)
            clear HL HP HQ HM hQ
            by_cases hm : x - py = 0
            · have HV := Lib.hid ((cmpI_zero (x - py) y (u - qv) v (by omega) (by omega) hy hv (.inl hm)).trans (left_one HR.out))
              have hm2 : (x - py == 0) = true := by rw [hm]; rfl
              clear hm
              go_wp2_with fail
              refine (compare (x - py) (u - qv) _).mono ?_
              rintro e w4 ⟨rfl, rfl⟩
              generalize cmpI (x - py) (u - qv) = r at *
              go_wp2_with fail
              try rw [Exit.noGoto_ret]
              go_ret
              exact ⟨ret_int HV.out, hb3⟩
            · by_cases hn : u - qv = 0
              · have HV := Lib.hid ((cmpI_zero (x - py) y (u - qv) v (by omega) (by omega) hy hv (.inr hn)).trans (left_one HR.out))
                have hm2 := eq_b hm
                have hn2 : (u - qv == 0) = true := by rw [hn]; rfl
                clear hn hm
                go_wp2_with fail
                refine (compare (x - py) (u - qv) _).mono ?_
                rintro e w4 ⟨rfl, rfl⟩
                generalize cmpI (x - py) (u - qv) = r at *
                go_wp2_with fail
                try rw [Exit.noGoto_ret]
                go_ret
                exact ⟨ret_int HV.out, hb3⟩
              · have hm2 := eq_b hm
                have hn2 := eq_b hn
                have hmx : 0 < x - py := by omega
                have hnx : 0 < u - qv := by omega
                clear hm hn
                have SB := Lib.hid (swap_boxes (.int .i64 v) (.int .i64 (u - qv)) (.int .i64 y) (.int .i64 (x - py)) I0.out I1.out)
                have hb4 := Lib.hid ((((hb3.setCell (p := ⟨w.heap.size, 0, none⟩) (by simp) (.int .i64 v)).setCell (p := ⟨w.heap.size, 1, none⟩) (by simp) (.int .i64 (u - qv))).setCell (p := ⟨w.heap.size + 1, 0, none⟩) (by simp) (.int .i64 y)).setCell (p := ⟨w.heap.size + 1, 1, none⟩) (by simp) (.int .i64 (x - py)))
                go_wp2_with fail
                go_roundw
                case rel => exact ⟨v, u - qv, y, x - py, rfl, SB.out.1, SB.out.2, hb4.out, by omega, by omega, by omega, by omega, by omega, by omega, by omega, by omega, left_turn HR.out⟩
                case measure => rw [MW.out, cellN_of SB.out.1, cellN_of SB.out.2]; omega

set_option maxHeartbeats 800000 in
theorem spec_cmp (a b c d : Int) (w : World) (ha : -9223372036854775808 ≤ a) (ha2 : a ≤ 9223372036854775807) (hb : -9223372036854775808 ≤ b) (hb2 : b ≤ 9223372036854775807) (hc : -9223372036854775808 ≤ c) (hc2 : c ≤ 9223372036854775807) (hd : -9223372036854775808 ≤ d) (hd2 : d ≤ 9223372036854775807) :
    Calls Try.prog 35 #[.agg #[.int .i64 a, .int .i64 b], .agg #[.int .i64 c, .int .i64 d]] w fun e w' => e = .returned (.int .i64 (cmpO a b c d)) ∧ Below w.heap.size w w' := by
  have hw : Below w.heap.size w ((w.alloc (.cells #[.int .i64 a, .int .i64 b] 27)).alloc (.cells #[.int .i64 c, .int .i64 d] 27)) := below_box2 (below_box _ _) _
  cases h1 : okR a b with
  | false =>
    rw [cmpO_no1 h1]
    have H1 := Lib.hid h1
    clear h1
    go_enter Try.func35, Try.ntmps35
    go_wp2_with fail
    refine (spec_ok a b _ ha ha2 hb hb2).mono ?_
    rw [H1.out]
    rintro e w1 ⟨rfl, bl1⟩
    go_wp2_with fail
    go_ret
    exact ⟨rfl, hw.trans (bl1.mono hw.size)⟩
  | true =>
    cases h2 : okR c d with
    | false =>
      rw [cmpO_no2 h2]
      have H1 := Lib.hid h1
      have H2 := Lib.hid h2
      clear h1 h2
      go_enter Try.func35, Try.ntmps35
      go_wp2_with fail
      refine (spec_ok a b _ ha ha2 hb hb2).mono ?_
      rw [H1.out]
      rintro e w1 ⟨rfl, bl1⟩
      obtain ⟨p0, p1, p2, p3, hz1⟩ := boxed2 bl1
      go_wp2_with fail
      refine (spec_ok c d _ hc hc2 hd hd2).mono ?_
      rw [H2.out]
      rintro e w2 ⟨rfl, bl2⟩
      have bl12 := bl1.trans (bl2.mono bl1.size)
      go_wp2_with fail
      go_ret
      exact ⟨rfl, hw.trans (bl12.mono hw.size)⟩
    | true =>
      rw [cmpO_of h1 h2]
      obtain ⟨q1, q2, q3, q4, _⟩ := (okR_iff _ _).1 h1
      obtain ⟨q5, q6, q7, q8, _⟩ := (okR_iff _ _).1 h2
      exact spec_cmp_loop a b c d w (by omega) (by omega) (by omega) (by omega) (by omega) (by omega) (by omega) (by omega) h1 h2

set_option maxHeartbeats 800000 in
theorem impl_cmp (a b c d : Int) (w : World) (ha : -9223372036854775808 ≤ a) (ha2 : a ≤ 9223372036854775807) (hb : -9223372036854775808 ≤ b) (hb2 : b ≤ 9223372036854775807) (hc : -9223372036854775808 ≤ c) (hc2 : c ≤ 9223372036854775807) (hd : -9223372036854775808 ≤ d) (hd2 : d ≤ 9223372036854775807) :
    Calls Try.prog 37 #[.agg #[.int .i64 a, .int .i64 b], .agg #[.int .i64 c, .int .i64 d]] w fun e w' => e = .returned (.int .i64 (cmpO a b c d)) ∧ Below w.heap.size w w' := by
  have hw : Below w.heap.size w ((w.alloc (.cells #[.int .i64 a, .int .i64 b] 27)).alloc (.cells #[.int .i64 c, .int .i64 d] 27)) := below_box2 (below_box _ _) _
  cases h1 : okR a b with
  | false =>
    rw [cmpO_no1 h1]
    have H1 := Lib.hid h1
    clear h1
    go_enter Try.func37, Try.ntmps37
    go_wp2_with fail
    go_step3
    go_wp2_with fail
    refine (impl_ok a b _ ha ha2 hb hb2).mono ?_
    rw [H1.out]
    rintro e w1 ⟨rfl, bl1⟩
    go_wp2_with fail
    try rw [Exit.noGoto_ret]
    go_ret
    exact ⟨rfl, hw.trans (bl1.mono hw.size)⟩
  | true =>
    cases h2 : okR c d with
    | false =>
      rw [cmpO_no2 h2]
      have H1 := Lib.hid h1
      have H2 := Lib.hid h2
      clear h1 h2
      go_enter Try.func37, Try.ntmps37
      go_wp2_with fail
      go_step3
      go_wp2_with fail
      refine (impl_ok a b _ ha ha2 hb hb2).mono ?_
      rw [H1.out]
      rintro e w1 ⟨rfl, bl1⟩
      obtain ⟨p0, p1, p2, p3, hz1⟩ := boxed2 bl1
      go_wp2_with fail
      refine (impl_ok c d _ hc hc2 hd hd2).mono ?_
      rw [H2.out]
      rintro e w2 ⟨rfl, bl2⟩
      have bl12 := bl1.trans (bl2.mono bl1.size)
      go_wp2_with fail
      try rw [Exit.noGoto_ret]
      go_ret
      exact ⟨rfl, hw.trans (bl12.mono hw.size)⟩
    | true =>
      rw [cmpO_of h1 h2]
      obtain ⟨q1, q2, q3, q4, _⟩ := (okR_iff _ _).1 h1
      obtain ⟨q5, q6, q7, q8, _⟩ := (okR_iff _ _).1 h2
      exact impl_cmp_loop a b c d w (by omega) (by omega) (by omega) (by omega) (by omega) (by omega) (by omega) (by omega) h1 h2

theorem below_six {W w2 : World} (o1 o2 o3 o4 o5 o6 : Obj) (bl : Below ((((((W.alloc o1).alloc o2).alloc o3).alloc o4).alloc o5).alloc o6).drew.heap.size ((((((W.alloc o1).alloc o2).alloc o3).alloc o4).alloc o5).alloc o6).drew w2) : Below W.heap.size W w2 := by
  have h : Below W.heap.size W ((((((W.alloc o1).alloc o2).alloc o3).alloc o4).alloc o5).alloc o6).drew := below_drew1 (below_box2 (below_box2 (below_box2 (below_box2 (below_box2 (below_box _ _) _) _) _) _) _)
  exact h.trans (bl.mono h.size)
theorem to_ratio_w (n d : Int) (w : World) :
    Calls Try.prog 14 #[.agg #[.int .i64 n, .int .i64 d]] w fun e w' => e = .returned (.agg #[.int .i64 n, .int .i64 d]) ∧ w' = ((w.alloc (.cells #[.int .i64 n, .int .i64 d] 23)).alloc (.cells #[.int .i64 n, .int .i64 d] 27)).alloc (.cells #[.int .i64 n, .int .i64 d] 27) := by
  go_enter Try.func14, Try.ntmps14
  go_wp2
  exact bodyPost_ret (v := .agg #[.int .i64 n, .int .i64 d]) (by simp [results, Try.results14, go_sem]) rfl ⟨rfl, rfl⟩

theorem heap_blw {w w' : World} {g : Nat} {o : Obj} (hb : Below w.heap.size w w') (h : w.heap[g]? = some o) : w'.heap[g]? = some o := by
  rw [hb.block g (lt_of_block h)]; exact h
theorem boxes_drew {w w1 : World} {a b c d : Value} {T U : TypeId} {k : Nat} (hb : Below (((w.alloc (.cells #[a, b] T)).drewN k).alloc (.cells #[c, d] U)).heap.size (((w.alloc (.cells #[a, b] T)).drewN k).alloc (.cells #[c, d] U)) w1) :
    w1.cell? ⟨w.heap.size, 0, none⟩ = some a ∧ w1.cell? ⟨w.heap.size, 1, none⟩ = some b ∧ w1.cell? ⟨w.heap.size + 1, 0, none⟩ = some c ∧ w1.cell? ⟨w.heap.size + 1, 1, none⟩ = some d ∧
    w1.frozen? ⟨w.heap.size, 0, none⟩ = false ∧ w1.frozen? ⟨w.heap.size, 1, none⟩ = false ∧ w.heap.size + 1 < w1.heap.size ∧ Below w.heap.size w w1 := by
  have h0 : ((w.alloc (.cells #[a, b] T)).drewN k).heap[w.heap.size]? = some (.cells #[a, b] T (0, 0)) := heap_alloc_new w _
  have h1 := heap_alloc_new ((w.alloc (.cells #[a, b] T)).drewN k) (.cells #[c, d] U)
  have e : ((w.alloc (.cells #[a, b] T)).drewN k).heap.size = w.heap.size + 1 := by simp
  rw [e] at h1
  have b0 := below_box ((w.alloc (.cells #[a, b] T)).drewN k) (.cells #[c, d] U)
  have h0' := heap_blw hb (heap_blw b0 h0)
  have h1' := heap_blw hb h1
  refine ⟨cell_of_row _ _ 0 _ _ _ h0', cell_of_row _ _ 1 _ _ _ h0', cell_of_row _ _ 0 _ _ _ h1', cell_of_row _ _ 1 _ _ _ h1', frozen_of_row _ _ 0 _ _ h0', frozen_of_row _ _ 1 _ _ h0', lt_of_block h1', ?_⟩
  have c0 := below_drew (below_box w (.cells #[a, b] T)) k
  have c1 := c0.trans (b0.mono c0.size)
  exact c1.trans (hb.mono c1.size)
theorem ne_t {a b : Bool} (h : (a != b) = true) : (!a == b) = true := by cases a <;> cases b <;> simp_all
theorem ne_f {a b : Bool} (h : ¬ (a != b) = true) : (!a == b) = false := by cases a <;> cases b <;> simp_all
theorem eq_z {a b : Int} (h : a ≠ b) : (a == b) = false := by simpa using h

set_option maxHeartbeats 1600000 in
theorem impl_of (n d N : Int) (T B : Nat) (w : World) (hn : -9223372036854775808 ≤ n) (hn2 : n ≤ 9223372036854775807) (hd : -9223372036854775808 ≤ d) (hd2 : d ≤ 9223372036854775807) (h : hasR n d = true) (hN : sgnR n d = N) (hT : topR n d = T) (hB : botR n d = B) :
    Calls Try.prog 33 #[.int .i64 n, .int .i64 d] w fun e w' => e = .returned (.agg #[.int .i64 N, .int .i64 B]) ∧ Below w.heap.size w w' := by
  obtain ⟨h0, h1, h2⟩ := (hasR_iff n d).1 h
  have hd0 := eq_z h0
  rw [hT] at h1
  rw [hB] at h2
  have hg : 0 < n.natAbs.gcd d.natAbs := Nat.gcd_pos_of_pos_right _ (by omega)
  have HT := Lib.hid (show n.natAbs / n.natAbs.gcd d.natAbs = T from hT)
  have HB := Lib.hid (show d.natAbs / n.natAbs.gcd d.natAbs = B from hB)
  have hp : n.natAbs ≤ 9223372036854775808 := by omega
  have hq : d.natAbs ≤ 9223372036854775808 := by omega
  have HN := Lib.hid hN
  unfold sgnR at HN
  rw [hT] at HN
  have HM := Lib.hid (fun W => magn n W hn hn2)
  have HK := Lib.hid (fun W => magn d W hd hd2)
  clear h hT hB hN h0
  generalize n.natAbs = p at *
  generalize d.natAbs = q at *
  have HG := Lib.hid (fun W => gcd_mag p q W hp hq)
  generalize p.gcd q = g at *
  have HP := Lib.hid (show (p : Int) / (g : Int) = (T : Int) by rw [← HT.out]; rfl)
  have HQ := Lib.hid (show (q : Int) / (g : Int) = (B : Int) by rw [← HB.out]; rfl)
  clear HT HB
  by_cases hs : (decide (n < 0) != decide (d < 0)) = true
  · rw [if_pos hs] at HN
    have hs2 := ne_t hs
    clear hs
    obtain rfl := HN.out
    clear HN
    go_enter Try.func33, Try.ntmps33
    go_wp2_with fail
    refine (HM.out _).mono ?_
    rintro e w1 ⟨rfl, rfl⟩
    go_wp2_with fail
    refine (HK.out _).mono ?_
    rintro e w1 ⟨rfl, rfl⟩
    go_wp2_with fail
    refine (HG.out _).mono ?_
    rintro e w1 ⟨rfl, k, rfl⟩
    have hg2 : (0 : Int) < (g : Int) := by omega
    go_wp2_with fail
    go_quiet (fail)
    rw [HP.out, HQ.out, IntWalk.u64_in (T : Int) ⟨by omega, by omega⟩, IntWalk.u64_in (B : Int) ⟨by omega, by omega⟩]
    clear HP HQ HM HK HG hg hg2
    go_wp2_with fail
    refine bodyPost_ret (v := .agg #[.int .i64 (-(T : Int)), .int .i64 B]) (by simp [results, Try.results33, go_sem]) rfl ⟨rfl, ?_⟩
    exact ((below_drew (below_box _ _) _).setCell (by simp) _).setCell (by simp) _
  · rw [if_neg hs] at HN
    have hs2 := ne_f hs
    clear hs
    obtain rfl := HN.out
    clear HN
    go_enter Try.func33, Try.ntmps33
    go_wp2_with fail
    refine (HM.out _).mono ?_
    rintro e w1 ⟨rfl, rfl⟩
    go_wp2_with fail
    refine (HK.out _).mono ?_
    rintro e w1 ⟨rfl, rfl⟩
    go_wp2_with fail
    refine (HG.out _).mono ?_
    rintro e w1 ⟨rfl, k, rfl⟩
    have hg2 : (0 : Int) < (g : Int) := by omega
    go_wp2_with fail
    go_quiet (fail)
    rw [HP.out, HQ.out, IntWalk.u64_in (T : Int) ⟨by omega, by omega⟩, IntWalk.u64_in (B : Int) ⟨by omega, by omega⟩]
    clear HP HQ HM HK HG hg hg2
    go_wp2_with fail
    refine bodyPost_ret (v := .agg #[.int .i64 T, .int .i64 B]) (by simp [results, Try.results33, go_sem]) rfl ⟨rfl, ?_⟩
    exact ((below_drew (below_box _ _) _).setCell (by simp) _).setCell (by simp) _

set_option maxHeartbeats 1600000 in
theorem spec_of (n d N D : Int) (w : World) (hn : -1000000000000000000 ≤ n) (hn2 : n ≤ 1000000000000000000) (hd : 0 < d) (hd2 : d ≤ 1000000000000000000) (hN : n / (Int.gcd n d : Int) = N) (hD : d / (Int.gcd n d : Int) = D) (hN0 : -1000000000000000000 ≤ N) (hN1 : N ≤ 1000000000000000000) (hD0 : -1000000000000000000 ≤ D) (hD1 : D ≤ 1000000000000000000) (hT : n.tdiv (Int.gcd n d : Int) = N) (hok : okR N D = true) :
    Calls Try.prog 39 #[.int .i64 n, .int .i64 d] w fun e w' => e = .returned (.agg #[.int .i64 N, .int .i64 D]) ∧ Below w.heap.size w w' := by
  have hg : 0 < Int.gcd n d := Nat.gcd_pos_of_pos_right _ (by omega)
  have HG := Lib.hid (spec_gcd n d · (by omega) (by omega) (by omega) (by omega))
  rw [gcdR_of n d (by omega) (by omega)] at HG
  have hg2 : Int.gcd n d ≤ 1000000000000000000 := Nat.le_trans (Nat.gcd_le_right n.natAbs (by omega : 0 < d.natAbs)) (by omega)
  generalize Int.gcd n d = g at *
  have HO := Lib.hid hok
  clear hok
  have g0 : ((g : Int) == 0) = false := eq_z (by omega)
  have d0 : (d == 0) = false := eq_z (by omega)
  have hg3 : (0 : Int) < (g : Int) := by omega
  go_enter Try.func39, Try.ntmps39
  go_wp2_with fail
  refine (HG.out _).mono ?_
  rintro e w1 ⟨rfl, k, rfl⟩
  go_wp2_with fail
  have v0 : IntKind.i64.wrap N = N := IntWalk.i64_in _ (by omega)
  have v1 : IntKind.i64.wrap D = D := IntWalk.i64_in _ (by omega)
  go_region
  rw [hD]
  clear hN hD hT v0 v1 g0 hg hg2 hg3 HG
  go_wp2_with fail
  refine (spec_ok N D _ (by omega) (by omega) (by omega) (by omega)).mono ?_
  rw [HO.out]
  rintro e w2 ⟨rfl, hb2⟩
  obtain ⟨p0, p1, p2, p3, f0, f1, hz, hbw⟩ := boxes_drew hb2
  clear hb2
  go_wp2_with fail
  refine bodyPost_ret (v := .agg #[.int .i64 N, .int .i64 D]) (by simp [results, Try.results39, go_sem, p0, p1]) rfl ⟨rfl, ?_⟩
  exact (hbw.setCell (by simp) _).setCell (by simp) _
end Go.Proofs.Ytibkmhmeoelpdaa
