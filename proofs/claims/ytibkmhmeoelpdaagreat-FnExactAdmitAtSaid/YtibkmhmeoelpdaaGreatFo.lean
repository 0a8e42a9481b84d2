/- folded of the program (over spans and half planes), for any closure; over the translation. -/
import Derived.Test.YtibkmhmeoelpdaaGreatNr
import Derived.Test.YtibkmhmeoelpdaaGreatMz
namespace Go.Proofs.YtibkmhmeoelpdaaGreat
open Go.RowKit
open Geo (H3)

theorem fo_set {W : World} {B : Nat} {t : TypeId} {a0 a1 a2 a3 : Value} (h : Blk W B #[a0, a1, a2, a3] t) (u v x y : Value) : Blk ((((W.setCell ⟨B, 0, none⟩ u).setCell ⟨B, 1, none⟩ v).setCell ⟨B, 2, none⟩ x).setCell ⟨B, 3, none⟩ y) B #[u, v, x, y] t :=
  heap_setCell_same _ B 3 _ t y (heap_setCell_same _ B 2 _ t x (heap_setCell_same _ B 1 _ t v (heap_setCell_same W B 0 _ t u h)))
theorem fo_far {W : World} {B C : Nat} {t : TypeId} {cs : Array Value} (h : Blk W C cs t) (n : B ≠ C) (u v x y : Value) : Blk ((((W.setCell ⟨B, 0, none⟩ u).setCell ⟨B, 1, none⟩ v).setCell ⟨B, 2, none⟩ x).setCell ⟨B, 3, none⟩ y) C cs t :=
  blk_far (blk_far (blk_far (blk_far h (p := ⟨B, 0, none⟩) u n) (p := ⟨B, 1, none⟩) v n) (p := ⟨B, 2, none⟩) x n) (p := ⟨B, 3, none⟩) y n
theorem fo_bel {n : Nat} {w W : World} {B : Nat} (h : Below n w W) (k : n ≤ B) (u v x y : Value) : Below n w ((((W.setCell ⟨B, 0, none⟩ u).setCell ⟨B, 1, none⟩ v).setCell ⟨B, 2, none⟩ x).setCell ⟨B, 3, none⟩ y) :=
  (((h.setCell (p := ⟨B, 0, none⟩) k u).setCell (p := ⟨B, 1, none⟩) k v).setCell (p := ⟨B, 2, none⟩) k x).setCell (p := ⟨B, 3, none⟩) k y
set_option maxRecDepth 100000 in
set_option maxHeartbeats 2000000 in
theorem impl_fold (f : Nat) (caps : List Value) (ef : ∀ args w, (callFunc f args).run Tryz.prog w = .ok (.enter f args) w) (q1 q2 q3 q4 : Nat → Int) (a : Option Addr) (n ca : Nat) (es : List H3) (w : World) (hl : es.length = n) (hn : n ≤ 1048576) (hA : HsAt w a es)
    (hC : ∀ (k : Nat) (h : H3) (V : World), es[k]? = some h → Below w.heap.size w V → Calls Tryz.prog f ((.agg #[.int .i64 (q1 k), .int .i64 (q2 k), .int .i64 (q3 k), .int .i64 (q4 k)] :: .agg #[.int .i64 h.a, .int .i64 h.b, .int .i64 h.c] :: caps).toArray) V fun e w' => e = .returned (.agg #[.int .i64 (q1 (k + 1)), .int .i64 (q2 (k + 1)), .int .i64 (q3 (k + 1)), .int .i64 (q4 (k + 1))]) ∧ Below V.heap.size V w') :
    Calls Tryz.prog 100 #[.agg #[.int .i64 (q1 0), .int .i64 (q2 0), .int .i64 (q3 0), .int .i64 (q4 0)], .slice a n ca, .func (.func f) #[] caps.toArray] w fun e w' => e = .returned (.agg #[.int .i64 (q1 n), .int .i64 (q2 n), .int .i64 (q3 n), .int .i64 (q4 n)]) ∧ Below w.heap.size w w' := by
  have bV := below_bx2 (below_one w (.cells #[.int .i64 (q1 0), .int .i64 (q2 0), .int .i64 (q3 0), .int .i64 (q4 0)] 35)) (.cells #[.int .i64 0, .int .i64 0, .int .i64 0, .int .i64 0] 35)
  have K0 := (blk_new w #[.int .i64 (q1 0), .int .i64 (q2 0), .int .i64 (q3 0), .int .i64 (q4 0)] 35 (b := w.heap.size) (by simp)).to (below_one _ (.cells #[.int .i64 0, .int .i64 0, .int .i64 0, .int .i64 0] 35))
  have K1 := blk_new (w.alloc (.cells #[.int .i64 (q1 0), .int .i64 (q2 0), .int .i64 (q3 0), .int .i64 (q4 0)] 35)) #[.int .i64 0, .int .i64 0, .int .i64 0, .int .i64 0] 35 (b := w.heap.size + 1) (by simp)
  have HC := Lib.hid hC
  have HA := Lib.hid hA
  have HL := Lib.hid hl
  clear hl hA hC
  go_enter Tryz.func100, Tryz.ntmps100
  go_wp2
  generalize ((w.alloc (.cells #[.int .i64 (q1 0), .int .i64 (q2 0), .int .i64 (q3 0), .int .i64 (q4 0)] 35)).alloc (.cells #[.int .i64 0, .int .i64 0, .int .i64 0, .int .i64 0] 35)) = V at *
  go_loopw [11] (fun i wr => ∃ k : Nat, k ≤ n ∧ i = .int .i64 k ∧ Below w.heap.size w wr ∧ Blk wr w.heap.size #[.int .i64 (q1 k), .int .i64 (q2 k), .int .i64 (q3 k), .int .i64 (q4 k)] 35 ∧ Blk wr (w.heap.size + 1) #[.int .i64 0, .int .i64 0, .int .i64 0, .int .i64 0] 35) (fun i _ => n - (intOf i).toNat)
  case atStart => exact ⟨0, Nat.zero_le _, rfl, bV, K0, K1⟩
  case round =>
    obtain ⟨k, hk, rfl, hbw, hK, hZ⟩ := hrel
    by_cases hlt : k < n
    · obtain ⟨⟨xa, xb, xc⟩, hx⟩ : ∃ x, es[k]? = some x := ⟨_, List.getElem?_eq_getElem (by rw [HL.out]; exact hlt)⟩
      have HX := Lib.hid hx
      obtain ⟨g, o, rfl, hcx⟩ := HA.out k _ hx
      obtain ⟨t1, t2, t3⟩ := hcx.to hbw
      simp only at t1 t2 t3
      have bX := below_bx2 hbw (.cells #[.int .i64 xa, .int .i64 xb, .int .i64 xc] 104)
      have HD := Lib.hid (HC.out k ⟨xa, xb, xc⟩ _ hx bX)
      clear hx hcx
      simp only at HD
      have bN := below_one wr (.cells #[.int .i64 xa, .int .i64 xb, .int .i64 xc] 104)
      have K := hK.to bN
      have Z := hZ.to bN
      have c0 := K.cell0 (i := 0) (v := .int .i64 (q1 k)) rfl
      have c1 := K.cell0 (i := 1) (v := .int .i64 (q2 k)) rfl
      have c2 := K.cell0 (i := 2) (v := .int .i64 (q3 k)) rfl
      have c3 := K.cell0 (i := 3) (v := .int .i64 (q4 k)) rfl
      go_wp2_with fail
      refine HD.out.mono ?_
      rintro e w4 ⟨rfl, bl4⟩
      have b4 := below_to bX bl4
      have K2 := K.to bl4
      have Z2 := Z.to bl4
      clear bX bN hK hZ K Z bl4 t1 t2 t3 c0 c1 c2 c3
      have d0 := K2.cell0 (i := 0) (v := .int .i64 (q1 k)) rfl
      have d1 := K2.cell0 (i := 1) (v := .int .i64 (q2 k)) rfl
      have d2 := K2.cell0 (i := 2) (v := .int .i64 (q3 k)) rfl
      have d3 := K2.cell0 (i := 3) (v := .int .i64 (q4 k)) rfl
      have f0 := K2.free 0
      have f1 := K2.free 1
      have f2 := K2.free 2
      have f3 := K2.free 3
      have K3 := Lib.hid (fo_set K2 (.int .i64 (q1 (k + 1))) (.int .i64 (q2 (k + 1))) (.int .i64 (q3 (k + 1))) (.int .i64 (q4 (k + 1))))
      have Z3 := Lib.hid (fo_far Z2 (B := w.heap.size) (by omega) (.int .i64 (q1 (k + 1))) (.int .i64 (q2 (k + 1))) (.int .i64 (q3 (k + 1))) (.int .i64 (q4 (k + 1))))
      have b5 := Lib.hid (fo_bel b4 (B := w.heap.size) (Nat.le_refl _) (.int .i64 (q1 (k + 1))) (.int .i64 (q2 (k + 1))) (.int .i64 (q3 (k + 1))) (.int .i64 (q4 (k + 1))))
      clear K2 Z2 b4
      go_wp2_with fail
      go_roundw
      case rel => exact ⟨k + 1, by omega, by go_num, b5.out, K3.out, Z3.out⟩
      case measure => simp [intOf]; omega
    · have hkn : k = n := by omega
      subst hkn
      have d0 := hK.cell0 (i := 0) (v := .int .i64 (q1 k)) rfl
      have d1 := hK.cell0 (i := 1) (v := .int .i64 (q2 k)) rfl
      have d2 := hK.cell0 (i := 2) (v := .int .i64 (q3 k)) rfl
      have d3 := hK.cell0 (i := 3) (v := .int .i64 (q4 k)) rfl
      have z0 := hZ.cell0 (i := 0) (v := .int .i64 0) rfl
      have z1 := hZ.cell0 (i := 1) (v := .int .i64 0) rfl
      have z2 := hZ.cell0 (i := 2) (v := .int .i64 0) rfl
      have z3 := hZ.cell0 (i := 3) (v := .int .i64 0) rfl
      have f0 := hZ.free 0
      have f1 := hZ.free 1
      have f2 := hZ.free 2
      have f3 := hZ.free 3
      go_wp2_with fail
      exact bodyPost_ret (v := .agg #[.int .i64 (q1 k), .int .i64 (q2 k), .int .i64 (q3 k), .int .i64 (q4 k)]) (by simp [results, Tryz.results100, go_sem, z0, z1, z2, z3]) rfl ⟨rfl, fo_bel hbw (Nat.le_add_right _ 1) _ _ _ _⟩
end Go.Proofs.YtibkmhmeoelpdaaGreat
