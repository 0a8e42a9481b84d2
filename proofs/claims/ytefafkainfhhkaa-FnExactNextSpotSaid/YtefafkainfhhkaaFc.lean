/- SupportOf and FarthestCorner of the program and of the model over the translation. -/
import Derived.Test.YtefafkainfhhkaaFb
import Derived.Test.YtefafkainfhhkaaCu
namespace Go.Proofs.Ytefafkainfhhkaa
open Go.RowKit
open Geo (H3)

theorem two_new (w : World) (x y : Value) (T : TypeId) : (w.alloc (.cells #[x, y] T)).cell? ⟨w.heap.size, 0, none⟩ = some x ∧ (w.alloc (.cells #[x, y] T)).cell? ⟨w.heap.size, 1, none⟩ = some y ∧ (w.alloc (.cells #[x, y] T)).frozen? ⟨w.heap.size, 0, none⟩ = false ∧ (w.alloc (.cells #[x, y] T)).frozen? ⟨w.heap.size, 1, none⟩ = false := by
  have h := heap_alloc_new w (.cells #[x, y] T)
  exact ⟨cell_of_row _ _ 0 _ _ _ h, cell_of_row _ _ 1 _ _ _ h, frozen_of_row _ _ 0 _ _ h, frozen_of_row _ _ 1 _ _ h⟩
set_option maxHeartbeats 1600000 in
theorem impl_sup (a : Option Addr) (n cap : Nat) (ps : List H3) (A B : Int) (w : World) (hl : ps.length = n) (hn : n ≤ 1048576) (h64 : ∀ h ∈ ps, In64 h) (hA : HsAt w a ps) :
    Calls Try.prog 54 #[.agg #[.slice a n cap], .int .i64 A, .int .i64 B] w fun e w' => e = .returned (.tuple #[.agg #[.int .i64 (supR A B ps).2.1, .int .i64 (supR A B ps).2.2], .bool (supB A B ps)]) ∧ Below w.heap.size w w' := by
  have bV := below_bx2 (below_one w (.cells #[.slice a n cap] 32)) (.cells #[.int .i64 0, .int .i64 0] 27)
  have B1 := blk_new (w.alloc (.cells #[.slice a n cap] 32)) #[.int .i64 0, .int .i64 0] 27 (b := w.heap.size + 1) (by simp)
  have HF := Lib.hid (fun V (h : Below w.heap.size w V) => impl_far a n cap ps A B V hl hn h64 (hA.below h))
  clear hl hA h64
  generalize supR A B ps = s at *
  generalize supB A B ps = r at *
  obtain ⟨sk, sN, sD⟩ := s
  simp only at HF ⊢
  go_enter Try.func54, Try.ntmps54
  go_wp2_with fail
  generalize (w.alloc (.cells #[.slice a n cap] 32)).alloc (.cells #[.int .i64 0, .int .i64 0] 27) = V at *
  refine (HF.out _ bV).mono ?_
  rintro e w1 ⟨rfl, bl1⟩
  have b1 := below_to bV bl1
  have B2 := (B1.to bl1).to (below_one w1 (.cells #[.int .i64 sN, .int .i64 sD] 27))
  have c1 := B2.cell0 (i := 0) rfl
  have c2 := B2.cell0 (i := 1) rfl
  have f1 := B2.free 0
  have f2 := B2.free 1
  obtain ⟨d1, d2, _, _⟩ := two_new w1 (.int .i64 sN) (.int .i64 sD) 27
  have b2 := below_bx2 b1 (.cells #[.int .i64 sN, .int .i64 sD] 27)
  clear bl1 B1 HF
  have hc5 := (blk_set2 B2 (.int .i64 sN) (.int .i64 sD)).cell0 (i := 0) rfl
  have hc6 := (blk_set2 B2 (.int .i64 sN) (.int .i64 sD)).cell0 (i := 1) rfl
  go_wp2_with fail
  exact bodyPost_ret (v := .tuple #[.agg #[.int .i64 sN, .int .i64 sD], .bool r]) (by simp [results, Try.results54, go_sem, hc5, hc6]) rfl ⟨rfl, (b2.setCell (p := ⟨w.heap.size + 1, 0, none⟩) (by simp) _).setCell (p := ⟨w.heap.size + 1, 1, none⟩) (by simp) _⟩
/-- what FarthestCorner answers -/
noncomputable def fkA (A B : Int) (ps : List H3) : Int := if supB A B ps = true then (supR A B ps).1 else -1
theorem set_row {W : World} {B o i : Nat} {a b c : Value} {g : Nat} (h : Tri W g o a b c) (hne : g ≠ B) (u : Value) : Tri (W.setCell ⟨B, i, none⟩ u) g o a b c := tri_far h (p := ⟨B, i, none⟩) (fun e => hne e.symm) u
theorem hs_far {W : World} {ao : Option Addr} {hs : List H3} (h : HsAt W ao hs) {B i : Nat} (u : Value) (hne : ∀ g o, ao = some ⟨g, o, none⟩ → g ≠ B) : HsAt (W.setCell ⟨B, i, none⟩ u) ao hs := by
  intro k x hx
  obtain ⟨g, o, e, hc⟩ := h k x hx
  exact ⟨g, o, e, tri_far hc (p := ⟨B, i, none⟩) (fun e' => hne g o e e'.symm) u⟩
/-- the stores of a new farthest corner -/
theorem far_put {W : World} {cs : Array Value} {N D : Int} {B : Nat} {T U : TypeId} {ao : Option Addr} {L : List H3} {w : World} {N' D' : Int} {ob : Obj} (h1 : Blk W (B + 1) cs T) (h2 : Blk W (B + 1 + 1) #[.int .i64 N, .int .i64 D] U) (hh : HsAt W ao L) (hne : ∀ g o, ao = some ⟨g, o, none⟩ → g ≠ B + 1 + 1) (hb : Below w.heap.size w W) (hw : w.heap.size ≤ B + 1 + 1) :
    Blk (((W.setCell ⟨B + 1 + 1, 0, none⟩ (.int .i64 N')).setCell ⟨B + 1 + 1, 1, none⟩ (.int .i64 D')).alloc ob) (B + 1) cs T ∧ Blk (((W.setCell ⟨B + 1 + 1, 0, none⟩ (.int .i64 N')).setCell ⟨B + 1 + 1, 1, none⟩ (.int .i64 D')).alloc ob) (B + 1 + 1) #[.int .i64 N', .int .i64 D'] U ∧
    HsAt (((W.setCell ⟨B + 1 + 1, 0, none⟩ (.int .i64 N')).setCell ⟨B + 1 + 1, 1, none⟩ (.int .i64 D')).alloc ob) ao L ∧ Below w.heap.size w (((W.setCell ⟨B + 1 + 1, 0, none⟩ (.int .i64 N')).setCell ⟨B + 1 + 1, 1, none⟩ (.int .i64 D')).alloc ob) := by
  refine ⟨(blk_far (blk_far h1 _ (by simp)) _ (by simp)).to (below_one _ _), (blk_set2 h2 _ _).to (below_one _ _), (hs_far (hs_far hh _ hne) _ hne).below (below_one _ _), below_bx2 ((hb.setCell (p := ⟨B + 1 + 1, 0, none⟩) (by simpa using hw) _).setCell (p := ⟨B + 1 + 1, 1, none⟩) (by simpa using hw) _) _⟩
set_option maxRecDepth 100000 in
set_option maxHeartbeats 1600000 in
theorem spec_far (a : Option Addr) (n cap : Nat) (ps : List H3) (A B : Int) (w : World) (hl : ps.length = n) (hn : n ≤ 1048576) (hp : rokB ps = true) (iA : In5 A) (iB : In5 B) (hA : HsAt w a ps) :
    Calls Try.prog 101 #[.agg #[.slice a n cap], .int .i64 A, .int .i64 B] w fun e w' => e = .returned (.tuple #[.int .i64 (farS A B ps n).1, .agg #[.int .i64 (farS A B ps n).2.1, .int .i64 (farS A B ps n).2.2]]) ∧ Below w.heap.size w w' := by
  have bV := below_bx2 (below_bx2 (below_one w (.cells #[.slice a n cap] 32)) (.cells #[.int .i64 0, .int .i64 0] 27)) (.cells #[.int .i64 0, .int .i64 0] 27)
  have B1 := (blk_new (w.alloc (.cells #[.slice a n cap] 32)) #[.int .i64 0, .int .i64 0] 27 (b := w.heap.size + 1) (by simp)).to (below_one _ (.cells #[.int .i64 0, .int .i64 0] 27))
  have B2 := blk_new ((w.alloc (.cells #[.slice a n cap] 32)).alloc (.cells #[.int .i64 0, .int .i64 0] 27)) #[.int .i64 0, .int .i64 0] 27 (b := w.heap.size + 1 + 1) (by simp)
  have HC := Lib.hid (fun V (h : Below w.heap.size w V) => spec_lcor a n cap ps V hl hn (rok_all hp) (hA.below h))
  have HP := Lib.hid hp
  have HL := Lib.hid hl
  have h40 : n ≤ 40 := by have := rok_len hp; omega
  clear hl hA hp
  have hVs : (((w.alloc (.cells #[.slice a n cap] 32)).alloc (.cells #[.int .i64 0, .int .i64 0] 27)).alloc (.cells #[.int .i64 0, .int .i64 0] 27)).heap.size = w.heap.size + 3 := by simp
  go_enter Try.func101, Try.ntmps101
  go_wp2_with fail
  generalize ((w.alloc (.cells #[.slice a n cap] 32)).alloc (.cells #[.int .i64 0, .int .i64 0] 27)).alloc (.cells #[.int .i64 0, .int .i64 0] 27) = V at *
  refine (HC.out _ bV).mono ?_
  rintro e w1 ⟨ao, cp, rfl, ho, bl1⟩
  have b1 := below_to bV bl1
  replace B1 := B1.to bl1
  replace B2 := B2.to bl1
  have HO := Lib.hid (own_hs ho)
  have hz1 : w.heap.size + 2 < w1.heap.size := B2.lt
  have hzV := bl1.size
  have hz2V : w.heap.size + 1 + 1 < V.heap.size := by have := hVs; omega
  have HNE := Lib.hid (show ∀ g o, ao = some ⟨g, o, none⟩ → g ≠ w.heap.size + 1 + 1 from fun g o e => by
    rcases ho.2 with ⟨h2, _⟩ | ⟨g', cap', cur, hv, hg, _⟩
    · rw [e] at h2; simp at h2
    · rw [e] at hv; simp at hv; omega)
  rw [corL_len]
  clear ho bl1 bV HC hVs
  go_wp2
  go_loopw [8, 17] (fun v i wr => ∃ k : Nat, k ≤ n ∧ i = .int .i64 k ∧ v = .int .i64 (farS A B ps k).1 ∧ Blk wr (w.heap.size + 1) #[.int .i64 0, .int .i64 0] 27 ∧ Blk wr (w.heap.size + 1 + 1) #[.int .i64 (farS A B ps k).2.1, .int .i64 (farS A B ps k).2.2] 27 ∧ HsAt wr ao (corL ps n) ∧ Below w.heap.size w wr) (fun _ i _ => n - (intOf i).toNat)
  case atStart => exact ⟨0, Nat.zero_le _, rfl, rfl, B1, B2, HO.out, b1⟩
  case round =>
    obtain ⟨k, hk, rfl, rfl, D1, D2, hh, hbw⟩ := hrel
    have HH := Lib.hid hh
    clear hh
    by_cases hlt : k < n
    · have hne : ps ≠ [] := by rintro rfl; have := HL.out; simp at this; omega
      have ho := (cnr_facts HP.out hne (i := k) (by rw [HL.out]; exact hlt)).1
      have hx := corL_get ps hlt
      have HV := Lib.hid (fun W => spec_va iA iB ho W)
      obtain ⟨⟨m1, m2⟩, ⟨m3, m4⟩, m5, m6⟩ := va_in iA iB ho
      obtain ⟨_, _, _, v1, v2, v3, v4⟩ := va_facts iA iB ho
      have HY := Lib.hid (fun h => far_yes (a := A) (b := B) (ps := ps) (k := k) h)
      have HN := Lib.hid (fun h => far_no (a := A) (b := B) (ps := ps) (k := k) h)
      obtain ⟨g, o, rfl, hc⟩ := HH.out k _ hx
      have FI : FarI (farS A B ps k) := by
        rcases far_ix A B ps k with ⟨_, e⟩ | ⟨j, hj, e⟩
        · rw [e]; exact farI_zero
        · obtain ⟨_, _, _, q1, q2, q3, q4⟩ := va_facts iA iB (cnr_facts HP.out hne (i := j) (by rw [HL.out]; omega)).1
          rw [e]
          exact ⟨⟨by simp only; omega, by simp only; omega⟩, ⟨q3, q4⟩, by simp only; omega, q2⟩
      generalize vaN A B (crA ps k) = vN at *
      generalize vaD A B (crA ps k) = vD at *
      generalize crA ps k = c at *
      obtain ⟨cx, cy, cd⟩ := c
      obtain ⟨t1, t2, t3⟩ := hc
      have l1 := block_lt_of_cell t1
      simp only at t1 t2 t3 l1 m1 m2 m3 m4 m5 m6 HV
      generalize hS : farS A B ps k = s at *
      obtain ⟨sk, sN, sD⟩ := s
      obtain ⟨⟨g1, g2⟩, ⟨g3, g4⟩, g5, g6⟩ := FI
      simp only at g1 g2 g3 g4 g5 g6 D2 HY HN
      have HC := Lib.hid (fun W => spec_cmp vN vD sN sD W (by omega) (by omega) (by omega) (by omega) (by omega) (by omega) (by omega) (by omega))
      generalize cmpO vN vD sN sD = r at *
      generalize eu1 : A * cx = u1 at *
      generalize eu2 : B * cy = u2 at *
      clear hx ho hS
      go_wp2_with fail
      have bn := below_one wr (.cells #[.int .i64 cx, .int .i64 cy, .int .i64 cd] 60)
      refine (HV.out _).mono ?_
      rintro e w5 ⟨rfl, bl5⟩
      have bm := below_to bn bl5
      have jX := blk_new w5 #[.int .i64 vN, .int .i64 vD] 27 rfl
      have hz2 := D2.lt
      have hz5 := bm.size
      replace D1 := D1.to bm
      replace D2 := D2.to bm
      have HH2 := Lib.hid (HH.out.below bm)
      have hb2 := below_to hbw bm
      have hx5 : w.heap.size + 1 + 1 < w5.heap.size := by omega
      clear t1 t2 t3 bl5 bn bm HH hbw l1
      have bq := below_one w5 (.cells #[.int .i64 vN, .int .i64 vD] 27)
      have E2 := D2.to bq
      have d5 : w5.cell? ⟨w.heap.size + 1 + 1, 0, none⟩ = some (.int .i64 sN) := D2.cell0 (i := 0) rfl
      have d6 : w5.cell? ⟨w.heap.size + 1 + 1, 1, none⟩ = some (.int .i64 sD) := D2.cell0 (i := 1) rfl
      have y1 : (w5.alloc (.cells #[.int .i64 vN, .int .i64 vD] 27)).cell? ⟨w5.heap.size, 0, none⟩ = some (.int .i64 vN) := jX.cell0 (i := 0) rfl
      have y2 : (w5.alloc (.cells #[.int .i64 vN, .int .i64 vD] 27)).cell? ⟨w5.heap.size, 1, none⟩ = some (.int .i64 vD) := jX.cell0 (i := 1) rfl
      have f5 := D2.free 0
      have f6 := D2.free 1
      by_cases hk0 : sk < 0
      · have HE := Lib.hid (HY.out (.inl hk0))
        clear HY HN
        go_wp2
        go_roundw
        case rel =>
          have P := far_put (ob := .cells #[.int .i64 vN, .int .i64 vD] 27) (N' := vN) (D' := vD) D1 D2 HH2.out HNE.out hb2 (by omega)
          exact ⟨k + 1, by omega, by go_num, by rw [HE.out], P.1, by rw [HE.out]; exact P.2.1, P.2.2.1, P.2.2.2⟩
        case measure => simp [intOf]; omega
      · replace D1 := D1.to bq
        replace D2 := E2
        have HH3 := Lib.hid (HH2.out.below bq)
        replace hb2 := below_to hb2 bq
        clear d5 d6 f5 f6 HH2 bq E2
        have d5 : (w5.alloc (.cells #[.int .i64 vN, .int .i64 vD] 27)).cell? ⟨w.heap.size + 1 + 1, 0, none⟩ = some (.int .i64 sN) := D2.cell0 (i := 0) rfl
        have d6 : (w5.alloc (.cells #[.int .i64 vN, .int .i64 vD] 27)).cell? ⟨w.heap.size + 1 + 1, 1, none⟩ = some (.int .i64 sD) := D2.cell0 (i := 1) rfl
        go_wp2_with fail
        generalize w5.alloc (.cells #[.int .i64 vN, .int .i64 vD] 27) = X at *
        refine (HC.out _).mono ?_
        rintro e w6 ⟨rfl, bl6⟩
        replace D1 := D1.to bl6
        replace D2 := D2.to bl6
        replace jX := jX.to bl6
        have HH4 := Lib.hid (HH3.out.below bl6)
        replace hb2 := below_to hb2 bl6
        clear d5 d6 y1 y2 HH3 bl6
        have d5 : w6.cell? ⟨w.heap.size + 1 + 1, 0, none⟩ = some (.int .i64 sN) := D2.cell0 (i := 0) rfl
        have d6 : w6.cell? ⟨w.heap.size + 1 + 1, 1, none⟩ = some (.int .i64 sD) := D2.cell0 (i := 1) rfl
        have y1 : w6.cell? ⟨w5.heap.size, 0, none⟩ = some (.int .i64 vN) := jX.cell0 (i := 0) rfl
        have y2 : w6.cell? ⟨w5.heap.size, 1, none⟩ = some (.int .i64 vD) := jX.cell0 (i := 1) rfl
        have f5 := D2.free 0
        have f6 := D2.free 1
        by_cases hr : 0 < r
        · have HE := Lib.hid (HY.out (.inr hr))
          clear HY HN
          go_wp2
          go_roundw
          case rel =>
            exact ⟨k + 1, by omega, by go_num, by rw [HE.out], blk_far (blk_far D1 _ (by simp)) _ (by simp), by rw [HE.out]; exact blk_set2 D2 _ _, hs_far (hs_far HH4.out _ HNE.out) _ HNE.out, (hb2.setCell (p := ⟨w.heap.size + 1 + 1, 0, none⟩) (by simp; omega) _).setCell (p := ⟨w.heap.size + 1 + 1, 1, none⟩) (by simp; omega) _⟩
          case measure => simp [intOf]; omega
        · have HE := Lib.hid (HN.out (not_or.2 ⟨by omega, by omega⟩))
          clear HY HN
          go_wp2
          go_roundw
          case rel => exact ⟨k + 1, by omega, by go_num, by rw [HE.out], D1, by rw [HE.out]; exact D2, HH4.out, hb2⟩
          case measure => simp [intOf]; omega
    · obtain rfl : k = n := by omega
      generalize hS : farS A B ps k = s at *
      obtain ⟨sk, sN, sD⟩ := s
      have HS := Lib.hid hS
      simp only at D2 ⊢
      clear hS
      have c1 : wr.cell? ⟨w.heap.size + 1, 0, none⟩ = some (.int .i64 0) := D1.cell0 (i := 0) rfl
      have c2 : wr.cell? ⟨w.heap.size + 1, 1, none⟩ = some (.int .i64 0) := D1.cell0 (i := 1) rfl
      have f1 := D1.free 0
      have f2 := D1.free 1
      have d5 : wr.cell? ⟨w.heap.size + 1 + 1, 0, none⟩ = some (.int .i64 sN) := D2.cell0 (i := 0) rfl
      have d6 : wr.cell? ⟨w.heap.size + 1 + 1, 1, none⟩ = some (.int .i64 sD) := D2.cell0 (i := 1) rfl
      have hc5 : ((wr.setCell ⟨w.heap.size + 1, 0, none⟩ (.int .i64 sN)).setCell ⟨w.heap.size + 1, 1, none⟩ (.int .i64 sD)).cell? ⟨w.heap.size + 1, 0, none⟩ = some (.int .i64 sN) := (blk_set2 D1 (.int .i64 sN) (.int .i64 sD)).cell0 (i := 0) rfl
      have hc6 : ((wr.setCell ⟨w.heap.size + 1, 0, none⟩ (.int .i64 sN)).setCell ⟨w.heap.size + 1, 1, none⟩ (.int .i64 sD)).cell? ⟨w.heap.size + 1, 1, none⟩ = some (.int .i64 sD) := (blk_set2 D1 (.int .i64 sN) (.int .i64 sD)).cell0 (i := 1) rfl
      go_wp2
      go_region
      all_goals go_wp2
      all_goals exact bodyPost_ret (v := .tuple #[.int .i64 sk, .agg #[.int .i64 sN, .int .i64 sD]]) (by simp [results, Try.results101, go_sem, hc5, hc6]) rfl ⟨by rw [HS.out], ((hbw.setCell (p := ⟨w.heap.size + 1, 0, none⟩) (by simp) _).setCell (p := ⟨w.heap.size + 1, 1, none⟩) (by simp) _).drew⟩
theorem two_put {V X : World} {B b i j : Nat} {x y p q : Value} (hne : B ≠ b) (h : V.cell? ⟨b, i, none⟩ = some x) (k : V.cell? ⟨b, j, none⟩ = some y) (hb : Below V.heap.size V X) : ((X.setCell ⟨B, 0, none⟩ p).setCell ⟨B, 1, none⟩ q).cell? ⟨b, i, none⟩ = some x ∧ ((X.setCell ⟨B, 0, none⟩ p).setCell ⟨B, 1, none⟩ q).cell? ⟨b, j, none⟩ = some y := by
  rw [World.cell?_setCell_far _ _ _ _ (by simpa using hne), World.cell?_setCell_far _ _ _ _ (by simpa using hne), World.cell?_setCell_far _ _ _ _ (by simpa using hne), World.cell?_setCell_far _ _ _ _ (by simpa using hne)]
  exact ⟨cell_to h hb, cell_to k hb⟩
theorem sup_of {A B : Int} {ps : List H3} {n : Nat} (hl : ps.length = n) (h : rokB ps = true) (ne : ps ≠ []) (ha : inB A (-50000) 50000 = true) (hb : inB B (-50000) 50000 = true) : supB A B ps = true ∧ supR A B ps = farS A B ps n ∧ okR (farS A B ps n).2.1 (farS A B ps n).2.2 = true ∧ FarI (farS A B ps n) := by
  have s : supB A B ps = true := by unfold supB; simp [h, ne, ha, hb]
  refine ⟨s, by unfold supR; rw [if_pos s, hl], ?_⟩
  rcases far_ix A B ps n with ⟨z, _⟩ | ⟨j, hj, e⟩
  · exact absurd (len_nil hl z) ne
  · obtain ⟨_, q, _, q1, q2, q3, q4⟩ := va_facts (in5_of ha) (in5_of hb) (cnr_facts h ne (i := j) (by omega)).1
    rw [e]
    refine ⟨q, ⟨?_, ?_⟩, ⟨q3, q4⟩, ?_, q2⟩
    · simp only; omega
    · simp only; have := rok_len h; omega
    · simp only; omega
theorem sup_not {A B : Int} {ps : List H3} (h : rokB ps = false ∨ ps = []) : supB A B ps = false ∧ supR A B ps = (0, 0, 0) := by
  have : supB A B ps = false := by unfold supB; rcases h with h | h <;> simp [h]
  exact ⟨this, by unfold supR; rw [this]; rfl⟩
set_option maxRecDepth 100000 in
set_option maxHeartbeats 1600000 in
theorem spec_sup (a : Option Addr) (n cap : Nat) (ps : List H3) (A B : Int) (w : World) (hl : ps.length = n) (hn : n ≤ 1048576) (h64 : ∀ h ∈ ps, In64 h) (hz : a = none → n = 0 ∧ cap = 0) (hA : HsAt w a ps) :
    Calls Try.prog 51 #[.agg #[.slice a n cap], .int .i64 A, .int .i64 B] w fun e w' => e = .returned (.tuple #[.agg #[.int .i64 (supR A B ps).2.1, .int .i64 (supR A B ps).2.2], .bool (supB A B ps)]) ∧ Below w.heap.size w w' := by
  have bV := below_bx2 (below_one w (.cells #[.slice a n cap] 32)) (.cells #[.int .i64 0, .int .i64 0] 27)
  have B0 := (blk_new w #[.slice a n cap] 32 rfl).to (below_one _ (.cells #[.int .i64 0, .int .i64 0] 27))
  have B1 := blk_new (w.alloc (.cells #[.slice a n cap] 32)) #[.int .i64 0, .int .i64 0] 27 (b := w.heap.size + 1) (by simp)
  have HR := Lib.hid (fun V (h : Below w.heap.size w V) => spec_rok a n cap ps V hl hn h64 hz (hA.below h))
  have HV := Lib.hid (fun V => spec_void a n cap V)
  have HF := Lib.hid (fun V (h : Below w.heap.size w V) (p : rokB ps = true) (iA : In5 A) (iB : In5 B) => spec_far a n cap ps A B V hl hn p iA iB (hA.below h))
  have HL := Lib.hid hl
  clear hl hA h64 hz
  go_enter Try.func51, Try.ntmps51
  go_wp2_with fail
  generalize (w.alloc (.cells #[.slice a n cap] 32)).alloc (.cells #[.int .i64 0, .int .i64 0] 27) = V at *
  refine (HR.out _ bV).mono ?_
  rintro e w1 ⟨rfl, bl1⟩
  have b1 := below_to bV bl1
  replace B0 := B0.to bl1
  replace B1 := B1.to bl1
  clear bV bl1 HR
  cases hr : rokB ps with
  | false =>
    have HN := Lib.hid (sup_not (A := A) (B := B) (.inl hr))
    clear hr
    have c1 : w1.cell? ⟨w.heap.size + 1, 0, none⟩ = some (.int .i64 0) := B1.cell0 (i := 0) rfl
    have c2 : w1.cell? ⟨w.heap.size + 1, 1, none⟩ = some (.int .i64 0) := B1.cell0 (i := 1) rfl
    have f1 := B1.free 0
    have f2 := B1.free 1
    have hc5 := (blk_set2 B1 (.int .i64 0) (.int .i64 0)).cell0 (i := 0) rfl
    have hc6 := (blk_set2 B1 (.int .i64 0) (.int .i64 0)).cell0 (i := 1) rfl
    go_wp2_with fail
    exact bodyPost_ret (v := .tuple #[.agg #[.int .i64 0, .int .i64 0], .bool false]) (by simp [results, Try.results51, go_sem, hc5, hc6]) rfl ⟨by rw [HN.out.1, HN.out.2], (b1.setCell (p := ⟨w.heap.size + 1, 0, none⟩) (by simp) _).setCell (p := ⟨w.heap.size + 1, 1, none⟩) (by simp) _⟩
  | true =>
    have HP := Lib.hid hr
    clear hr
    have c0 : w1.cell? ⟨w.heap.size, 0, none⟩ = some (.slice a n cap) := B0.cell0 (i := 0) rfl
    go_wp2_with fail
    refine (HV.out _).mono ?_
    rintro e w2 ⟨rfl, bl2⟩
    have b2 := below_to b1 bl2
    replace B0 := B0.to bl2
    replace B1 := B1.to bl2
    clear b1 bl2 HV c0
    have c0 : w2.cell? ⟨w.heap.size, 0, none⟩ = some (.slice a n cap) := B0.cell0 (i := 0) rfl
    have c1 : w2.cell? ⟨w.heap.size + 1, 0, none⟩ = some (.int .i64 0) := B1.cell0 (i := 0) rfl
    have c2 : w2.cell? ⟨w.heap.size + 1, 1, none⟩ = some (.int .i64 0) := B1.cell0 (i := 1) rfl
    have f1 := B1.free 0
    have f2 := B1.free 1
    have hc5 : ((w2.setCell ⟨w.heap.size + 1, 0, none⟩ (.int .i64 0)).setCell ⟨w.heap.size + 1, 1, none⟩ (.int .i64 0)).cell? ⟨w.heap.size + 1, 0, none⟩ = some (.int .i64 0) := (blk_set2 B1 (.int .i64 0) (.int .i64 0)).cell0 (i := 0) rfl
    have hc6 : ((w2.setCell ⟨w.heap.size + 1, 0, none⟩ (.int .i64 0)).setCell ⟨w.heap.size + 1, 1, none⟩ (.int .i64 0)).cell? ⟨w.heap.size + 1, 1, none⟩ = some (.int .i64 0) := (blk_set2 B1 (.int .i64 0) (.int .i64 0)).cell0 (i := 1) rfl
    by_cases h0 : n = 0
    · have HN := Lib.hid (sup_not (A := A) (B := B) (.inr (len_nil HL.out h0)))
      have hb : ((n : Int) == 0) = true := by subst h0; rfl
      go_wp2_with fail
      exact bodyPost_ret (v := .tuple #[.agg #[.int .i64 0, .int .i64 0], .bool false]) (by simp [results, Try.results51, go_sem, hc5, hc6]) rfl ⟨by rw [HN.out.1, HN.out.2], (b2.setCell (p := ⟨w.heap.size + 1, 0, none⟩) (by simp) _).setCell (p := ⟨w.heap.size + 1, 1, none⟩) (by simp) _⟩
    · have hb : ((n : Int) == 0) = false := eq_b (by omega)
      have hne := len_ne HL.out h0
      cases h1 : inB A (-50000) 50000 with
      | false =>
        have HN := Lib.hid (sup_no1 (B := B) (ps := ps) h1)
        have HI := Lib.hid (fun W => in_spec_is A (-50000) 50000 W false h1)
        clear h1
        go_wp2_with fail
        refine (HI.out _).mono ?_
        rintro e w3 ⟨rfl, rfl⟩
        go_wp2_with fail
        exact bodyPost_ret (v := .tuple #[.agg #[.int .i64 0, .int .i64 0], .bool false]) (by simp [results, Try.results51, go_sem, hc5, hc6]) rfl ⟨by rw [HN.out.1, HN.out.2], (b2.setCell (p := ⟨w.heap.size + 1, 0, none⟩) (by simp) _).setCell (p := ⟨w.heap.size + 1, 1, none⟩) (by simp) _⟩
      | true =>
        have HA := Lib.hid h1
        have HI := Lib.hid (fun W => in_spec_is A (-50000) 50000 W true h1)
        clear h1
        go_wp2_with fail
        refine (HI.out _).mono ?_
        rintro e w3 ⟨rfl, rfl⟩
        clear HI
        cases h1 : inB B (-50000) 50000 with
        | false =>
          have HN := Lib.hid (sup_no2 (A := A) (ps := ps) h1)
          have HI := Lib.hid (fun W => in_spec_is B (-50000) 50000 W false h1)
          clear h1
          go_wp2_with fail
          refine (HI.out _).mono ?_
          rintro e w3 ⟨rfl, rfl⟩
          go_wp2_with fail
          exact bodyPost_ret (v := .tuple #[.agg #[.int .i64 0, .int .i64 0], .bool false]) (by simp [results, Try.results51, go_sem, hc5, hc6]) rfl ⟨by rw [HN.out.1, HN.out.2], (b2.setCell (p := ⟨w.heap.size + 1, 0, none⟩) (by simp) _).setCell (p := ⟨w.heap.size + 1, 1, none⟩) (by simp) _⟩
        | true =>
          have HN := Lib.hid (sup_of HL.out HP.out hne HA.out h1)
          have HI := Lib.hid (fun W => in_spec_is B (-50000) 50000 W true h1)
          have HX := Lib.hid (fun W (h : Below w.heap.size w W) => HF.out W h HP.out (in5_of HA.out) (in5_of h1))
          clear h1 HF hc5 hc6
          go_wp2_with fail
          refine (HI.out _).mono ?_
          rintro e w3 ⟨rfl, rfl⟩
          generalize farS A B ps n = s at *
          obtain ⟨sk, sN, sD⟩ := s
          obtain ⟨hn1, hn2, hok, ⟨⟨g1, g2⟩, ⟨g3, g4⟩, g5, g6⟩⟩ := HN.out
          simp only at hok g1 g2 g3 g4 g5 g6 HX
          have HO := Lib.hid (fun W => spec_ok sN sD W (by omega) (by omega) (by omega) (by omega))
          rw [hok] at HO
          have HN1 := Lib.hid hn1
          have HN2 := Lib.hid hn2
          clear HN hn1 hn2 hok
          go_wp2_with fail
          refine (HX.out _ b2).mono ?_
          rintro e w4 ⟨rfl, bl4⟩
          have b4 := below_to b2 bl4
          replace B1 := B1.to bl4
          clear c0 c1 c2 f1 f2 b2 bl4 HX HI
          go_wp2_with fail
          have hbx : w.heap.size + 1 ≠ w4.heap.size := by have := B1.lt; omega
          obtain ⟨d1, d2, _, _⟩ := two_new w4 (.int .i64 sN) (.int .i64 sD) 27
          have bq := below_one w4 (.cells #[.int .i64 sN, .int .i64 sD] 27)
          replace B1 := B1.to bq
          have b5 := below_to b4 bq
          clear bq b4
          generalize w4.alloc (.cells #[.int .i64 sN, .int .i64 sD] 27) = X at *
          generalize w4.heap.size = bx at *
          have c1 : X.cell? ⟨w.heap.size + 1, 0, none⟩ = some (.int .i64 0) := B1.cell0 (i := 0) rfl
          have c2 : X.cell? ⟨w.heap.size + 1, 1, none⟩ = some (.int .i64 0) := B1.cell0 (i := 1) rfl
          go_region_held3 (fun w' => w'.cell? ⟨bx, 0, none⟩ = some (.int .i64 sN) ∧ w'.cell? ⟨bx, 1, none⟩ = some (.int .i64 sD))
            (first | (refine two_put hbx d1 d2 ?_; repeat (first | exact Below.refl _ _ | refine below_drw ?_ | refine below_to ?_ (by assumption))) | (refine twoc d1 d2 ?_; repeat (first | exact Below.refl _ _ | refine below_drw ?_ | refine below_to ?_ (by assumption))))
            ((go_at_call 87; (with_reducible refine (HO.out _).mono ?_); rintro e w6 ⟨rfl, bl6⟩; have E1 := B1.to (below_to (below_drw (Below.refl _ _)) bl6); have e1 : w6.cell? ⟨w.heap.size + 1, 0, none⟩ = some (.int .i64 0) := E1.cell0 (i := 0) rfl; have e2 : w6.cell? ⟨w.heap.size + 1, 1, none⟩ = some (.int .i64 0) := E1.cell0 (i := 1) rfl; have f1 := E1.free 0; have f2 := E1.free 1))
          all_goals
            have hc5 : ((w6.setCell ⟨w.heap.size + 1, 0, none⟩ (.int .i64 sN)).setCell ⟨w.heap.size + 1, 1, none⟩ (.int .i64 sD)).cell? ⟨w.heap.size + 1, 0, none⟩ = some (.int .i64 sN) := (blk_set2 E1 (.int .i64 sN) (.int .i64 sD)).cell0 (i := 0) rfl
            have hc6 : ((w6.setCell ⟨w.heap.size + 1, 0, none⟩ (.int .i64 sN)).setCell ⟨w.heap.size + 1, 1, none⟩ (.int .i64 sD)).cell? ⟨w.heap.size + 1, 1, none⟩ = some (.int .i64 sD) := (blk_set2 E1 (.int .i64 sN) (.int .i64 sD)).cell0 (i := 1) rfl
            have b6 := below_to b5 (below_to (below_drw (Below.refl _ _)) bl6)
            go_wp2_with fail
            exact bodyPost_ret (v := .tuple #[.agg #[.int .i64 sN, .int .i64 sD], .bool true]) (by simp [results, Try.results51, go_sem, hc5, hc6]) rfl ⟨by rw [HN1.out, HN2.out], (b6.setCell (p := ⟨w.heap.size + 1, 0, none⟩) (by simp) _).setCell (p := ⟨w.heap.size + 1, 1, none⟩) (by simp) _⟩
end Go.Proofs.Ytefafkainfhhkaa
