/- MeetSpans of the model, over the translation. -/
import Derived.Test.YtibkmhmeoelpdaaFa
import Derived.Test.YtibkmhmeoelpdaaMf
namespace Go.Proofs.Ytibkmhmeoelpdaa
open Go.RowKit
open Geo (H3)

/-- the span of the inputs in both -/
def mspB (a b c d p q r s : Int) : Bool := spnB a b c d && spnB p q r s && spnB (maxP a b p q).1 (maxP a b p q).2 (minP c d r s).1 (minP c d r s).2
def mspL (a b c d p q r s : Int) : Int × Int := if mspB a b c d p q r s = true then maxP a b p q else (0, 0)
def mspH (a b c d p q r s : Int) : Int × Int := if mspB a b c d p q r s = true then minP c d r s else (0, 0)
theorem msp_no {a b c d p q r s : Int} (h : mspB a b c d p q r s = false) : mspL a b c d p q r s = (0, 0) ∧ mspH a b c d p q r s = (0, 0) ∧ mspB a b c d p q r s = false := by
  unfold mspL mspH; rw [h]; exact ⟨rfl, rfl, rfl⟩
theorem msp_yes {a b c d p q r s : Int} (h : mspB a b c d p q r s = true) : mspL a b c d p q r s = maxP a b p q ∧ mspH a b c d p q r s = minP c d r s ∧ mspB a b c d p q r s = true := by
  unfold mspL mspH; rw [h]; exact ⟨rfl, rfl, rfl⟩
theorem max_64 {a b c d : Int} (ha : I64 a) (hb : I64 b) (hc : I64 c) (hd : I64 d) : I64 (maxP a b c d).1 ∧ I64 (maxP a b c d).2 := by
  unfold maxP
  split
  · split <;> exact ⟨by assumption, by assumption⟩
  · exact ⟨⟨by simp, by simp⟩, ⟨by simp, by simp⟩⟩
theorem min_64 {a b c d : Int} (ha : I64 a) (hb : I64 b) (hc : I64 c) (hd : I64 d) : I64 (minP a b c d).1 ∧ I64 (minP a b c d).2 := by
  unfold minP
  split
  · split <;> exact ⟨by assumption, by assumption⟩
  · exact ⟨⟨by simp, by simp⟩, ⟨by simp, by simp⟩⟩
theorem keep8 {V X : World} {B C : Nat} {a0 a1 a2 a3 b0 b1 b2 b3 : Value} {T U : TypeId} (h : Blk V B #[a0, a1, a2, a3] T) (k : Blk V C #[b0, b1, b2, b3] U) (hb : Below V.heap.size V X) :
    X.cell? ⟨B, 0, none⟩ = some a0 ∧ X.cell? ⟨B, 1, none⟩ = some a1 ∧ X.cell? ⟨B, 2, none⟩ = some a2 ∧ X.cell? ⟨B, 3, none⟩ = some a3 ∧ X.cell? ⟨C, 0, none⟩ = some b0 ∧ X.cell? ⟨C, 1, none⟩ = some b1 ∧ X.cell? ⟨C, 2, none⟩ = some b2 ∧ X.cell? ⟨C, 3, none⟩ = some b3 :=
  ⟨(h.to hb).cell0 rfl, (h.to hb).cell0 rfl, (h.to hb).cell0 rfl, (h.to hb).cell0 rfl, (k.to hb).cell0 rfl, (k.to hb).cell0 rfl, (k.to hb).cell0 rfl, (k.to hb).cell0 rfl⟩
theorem blk_s4 {W : World} {B : Nat} {t : TypeId} {a0 a1 a2 a3 : Value} (h : W.heap[B]? = some (.cells #[a0, a1, a2, a3] t (0, 0))) (u v x y : Value) : ((((W.setCell ⟨B, 0, none⟩ u).setCell ⟨B, 1, none⟩ v).setCell ⟨B, 2, none⟩ x).setCell ⟨B, 3, none⟩ y).heap[B]? = some (.cells #[u, v, x, y] t (0, 0)) :=
  heap_setCell_same _ B 3 _ t y (heap_setCell_same _ B 2 _ t x (heap_setCell_same _ B 1 _ t v (heap_setCell_same W B 0 _ t u h)))
set_option maxHeartbeats 1600000 in
theorem spec_msp (a b c d p q r s : Int) (w : World) (ha : I64 a) (hb : I64 b) (hc : I64 c) (hd : I64 d) (hp : I64 p) (hq : I64 q) (hr : I64 r) (hs : I64 s) :
    Calls Try.prog 19 #[.agg #[.int .i64 a, .int .i64 b, .int .i64 c, .int .i64 d], .agg #[.int .i64 p, .int .i64 q, .int .i64 r, .int .i64 s]] w fun e w' => e = .returned (.tuple #[.agg #[.int .i64 (mspL a b c d p q r s).1, .int .i64 (mspL a b c d p q r s).2, .int .i64 (mspH a b c d p q r s).1, .int .i64 (mspH a b c d p q r s).2], .bool (mspB a b c d p q r s)]) ∧ Below w.heap.size w w' := by
  have bV := below_bx2 (below_bx2 (below_one w (.cells #[.int .i64 a, .int .i64 b, .int .i64 c, .int .i64 d] 29)) (.cells #[.int .i64 p, .int .i64 q, .int .i64 r, .int .i64 s] 29)) (.cells #[.int .i64 0, .int .i64 0, .int .i64 0, .int .i64 0] 29)
  have K0 := ((blk_new w #[.int .i64 a, .int .i64 b, .int .i64 c, .int .i64 d] 29 (b := w.heap.size) (by simp)).to (below_one _ (.cells #[.int .i64 p, .int .i64 q, .int .i64 r, .int .i64 s] 29))).to (below_one _ (.cells #[.int .i64 0, .int .i64 0, .int .i64 0, .int .i64 0] 29))
  have K1 := (blk_new (w.alloc (.cells #[.int .i64 a, .int .i64 b, .int .i64 c, .int .i64 d] 29)) #[.int .i64 p, .int .i64 q, .int .i64 r, .int .i64 s] 29 (b := w.heap.size + 1) (by simp)).to (below_one _ (.cells #[.int .i64 0, .int .i64 0, .int .i64 0, .int .i64 0] 29))
  have K2 := blk_new ((w.alloc (.cells #[.int .i64 a, .int .i64 b, .int .i64 c, .int .i64 d] 29)).alloc (.cells #[.int .i64 p, .int .i64 q, .int .i64 r, .int .i64 s] 29)) #[.int .i64 0, .int .i64 0, .int .i64 0, .int .i64 0] 29 (b := w.heap.size + 1 + 1) (by simp)
  have H1 := Lib.hid (fun V => spec_spn a b c d V ha hb hc hd)
  have H2 := Lib.hid (fun V => spec_spn p q r s V hp hq hr hs)
  have H3 := Lib.hid (fun V => spec_max a b p q V ha.1 ha.2 hb.1 hb.2 hp.1 hp.2 hq.1 hq.2)
  have H4 := Lib.hid (fun V => spec_min c d r s V hc.1 hc.2 hd.1 hd.2 hr.1 hr.2 hs.1 hs.2)
  obtain ⟨m1, m2⟩ := max_64 ha hb hp hq
  obtain ⟨m3, m4⟩ := min_64 hc hd hr hs
  have H5 := Lib.hid (fun V => spec_spn (maxP a b p q).1 (maxP a b p q).2 (minP c d r s).1 (minP c d r s).2 V m1 m2 m3 m4)
  clear ha hb hc hd hp hq hr hs m1 m2 m3 m4
  have a0 := K0.cell0 (i := 0) (v := .int .i64 a) rfl
  have a1 := K0.cell0 (i := 1) (v := .int .i64 b) rfl
  have a2 := K0.cell0 (i := 2) (v := .int .i64 c) rfl
  have a3 := K0.cell0 (i := 3) (v := .int .i64 d) rfl
  go_enter Try.func19, Try.ntmps19
  go_wp2_with fail
  generalize (((w.alloc (.cells #[.int .i64 a, .int .i64 b, .int .i64 c, .int .i64 d] 29)).alloc (.cells #[.int .i64 p, .int .i64 q, .int .i64 r, .int .i64 s] 29)).alloc (.cells #[.int .i64 0, .int .i64 0, .int .i64 0, .int .i64 0] 29)) = V at *
  refine (H1.out _).mono ?_
  rintro e w1 ⟨rfl, bl1⟩
  have b1' := below_to bV bl1
  have L0 := K0.to bl1
  have L1 := K1.to bl1
  have L2 := K2.to bl1
  clear a0 a1 a2 a3 K0 K1 K2 bV bl1
  cases h1 : spnB a b c d with
  | false =>
    have z0 := L2.cell0 (i := 0) (v := .int .i64 0) rfl
    have z1 := L2.cell0 (i := 1) (v := .int .i64 0) rfl
    have z2 := L2.cell0 (i := 2) (v := .int .i64 0) rfl
    have z3 := L2.cell0 (i := 3) (v := .int .i64 0) rfl
    have f0 := L2.free 0
    have f1 := L2.free 1
    have f2 := L2.free 2
    have f3 := L2.free 3
    have HN := Lib.hid (msp_no (show mspB a b c d p q r s = false by unfold mspB; rw [h1]; rfl))
    go_wp2_with fail
    exact bodyPost_ret (v := .tuple #[.agg #[.int .i64 0, .int .i64 0, .int .i64 0, .int .i64 0], .bool false]) (by simp [results, Try.results19, go_sem, z0, z1, z2, z3]) rfl ⟨by rw [HN.out.1, HN.out.2.1, HN.out.2.2], ((((b1'.setCell (p := ⟨w.heap.size + 1 + 1, 0, none⟩) (Nat.le_add_right _ 2) _).setCell (p := ⟨w.heap.size + 1 + 1, 1, none⟩) (Nat.le_add_right _ 2) _).setCell (p := ⟨w.heap.size + 1 + 1, 2, none⟩) (Nat.le_add_right _ 2) _).setCell (p := ⟨w.heap.size + 1 + 1, 3, none⟩) (Nat.le_add_right _ 2) _)⟩
  | true =>
    have b0 := L1.cell0 (i := 0) (v := .int .i64 p) rfl
    have b1 := L1.cell0 (i := 1) (v := .int .i64 q) rfl
    have b2 := L1.cell0 (i := 2) (v := .int .i64 r) rfl
    have b3 := L1.cell0 (i := 3) (v := .int .i64 s) rfl
    go_wp2_with fail
    refine (H2.out _).mono ?_
    rintro e w2 ⟨rfl, bl2⟩
    have b2' := below_to b1' bl2
    have M0 := L0.to bl2
    have M1 := L1.to bl2
    have M2 := L2.to bl2
    clear b0 b1 b2 b3 L0 L1 L2 b1' bl2
    cases h2 : spnB p q r s with
    | false =>
      have z0 := M2.cell0 (i := 0) (v := .int .i64 0) rfl
      have z1 := M2.cell0 (i := 1) (v := .int .i64 0) rfl
      have z2 := M2.cell0 (i := 2) (v := .int .i64 0) rfl
      have z3 := M2.cell0 (i := 3) (v := .int .i64 0) rfl
      have f0 := M2.free 0
      have f1 := M2.free 1
      have f2 := M2.free 2
      have f3 := M2.free 3
      have HN := Lib.hid (msp_no (show mspB a b c d p q r s = false by unfold mspB; rw [h2]; simp))
      go_wp2_with fail
      exact bodyPost_ret (v := .tuple #[.agg #[.int .i64 0, .int .i64 0, .int .i64 0, .int .i64 0], .bool false]) (by simp [results, Try.results19, go_sem, z0, z1, z2, z3]) rfl ⟨by rw [HN.out.1, HN.out.2.1, HN.out.2.2], ((((b2'.setCell (p := ⟨w.heap.size + 1 + 1, 0, none⟩) (Nat.le_add_right _ 2) _).setCell (p := ⟨w.heap.size + 1 + 1, 1, none⟩) (Nat.le_add_right _ 2) _).setCell (p := ⟨w.heap.size + 1 + 1, 2, none⟩) (Nat.le_add_right _ 2) _).setCell (p := ⟨w.heap.size + 1 + 1, 3, none⟩) (Nat.le_add_right _ 2) _)⟩
    | true =>
      have HN := Lib.hid (show mspB a b c d p q r s = spnB (maxP a b p q).1 (maxP a b p q).2 (minP c d r s).1 (minP c d r s).2 by unfold mspB; rw [h1, h2]; rfl)
      have HY := Lib.hid (fun h => msp_yes (a := a) (b := b) (c := c) (d := d) (p := p) (q := q) (r := r) (s := s) h)
      have HNO := Lib.hid (fun h => msp_no (a := a) (b := b) (c := c) (d := d) (p := p) (q := q) (r := r) (s := s) h)
      clear h1 h2
      go_wp2_with fail
      go_cut [6] from 16 to 26 (fun s6 wx => ∃ g, s6 = .pointer (some ⟨g, 0, none⟩) ∧ w2.heap.size ≤ g ∧ Blk wx g #[.int .i64 (maxP a b p q).1, .int .i64 (maxP a b p q).2, .int .i64 (minP c d r s).1, .int .i64 (minP c d r s).2] 29 ∧ Below w2.heap.size w2 wx)
      case first =>
        go_region_held3 (fun w' => w'.cell? ⟨w.heap.size, 0, none⟩ = some (.int .i64 a) ∧ w'.cell? ⟨w.heap.size, 1, none⟩ = some (.int .i64 b) ∧ w'.cell? ⟨w.heap.size, 2, none⟩ = some (.int .i64 c) ∧ w'.cell? ⟨w.heap.size, 3, none⟩ = some (.int .i64 d) ∧ w'.cell? ⟨w.heap.size + 1, 0, none⟩ = some (.int .i64 p) ∧ w'.cell? ⟨w.heap.size + 1, 1, none⟩ = some (.int .i64 q) ∧ w'.cell? ⟨w.heap.size + 1, 2, none⟩ = some (.int .i64 r) ∧ w'.cell? ⟨w.heap.size + 1, 3, none⟩ = some (.int .i64 s))
          ((refine keep8 M0 M1 ?_; repeat (first | exact Below.refl _ _ | refine Below.setCell ?_ (by first | (simp; done) | (simp; omega)) _ | refine below_bx2 ?_ _ | refine below_drw ?_ | refine below_to ?_ (by assumption))))
          (first | (go_at_call 43; (with_reducible refine (H3.out _).mono ?_); rintro e wA ⟨rfl, blA⟩; have hcA := bcl3 blA; (first | (with_reducible have hxA := bcl3 (blx_next blB (below_to (Below.refl _ _) blA))) | (with_reducible have hxA := bcl3 (blx_next blB (below_to (below_bx2 (Below.refl _ _) _) blA))) | skip); have hsA := blA.size; (try simp at hsA)) | (go_at_call 42; (with_reducible refine (H4.out _).mono ?_); rintro e wB ⟨rfl, blB⟩; have hcB := bcl3 blB; (first | (with_reducible have hxB := bcl3 (blx_next blA (below_to (Below.refl _ _) blB))) | (with_reducible have hxB := bcl3 (blx_next blA (below_to (below_bx2 (Below.refl _ _) _) blB))) | skip); have hsB := blB.size; (try simp at hsB)))
        all_goals
          (try obtain ⟨hcA1, hcA2⟩ := hcA)
          (try obtain ⟨hcB1, hcB2⟩ := hcB)
          (try obtain ⟨hxA1, hxA2⟩ := hxA)
          (try obtain ⟨hxB1, hxB2⟩ := hxB)
          go_wp2_with fail
          go_meet
          refine ⟨_, rfl, ?_, ?_, ?_⟩
          · first | exact Nat.le_refl _ | omega | (simp; omega)
          · first
            | (unfold Blk; with_reducible exact heap_alloc_new _ _)
            | (unfold Blk; with_reducible refine blk_s4 (a0 := .int .i64 0) (a1 := .int .i64 0) (a2 := .int .i64 0) (a3 := .int .i64 0) ?_ _ _ _ _
               apply at_new3 (Z := .cells #[.int .i64 0, .int .i64 0, .int .i64 0, .int .i64 0] 29)
               · repeat (first | exact Below.refl _ _ | refine below_bx2 ?_ _ | refine below_drw ?_ | refine below_to ?_ (by assumption))
               · first | rfl | (simp; done))
          · repeat (first | exact Below.refl _ _ | refine Below.setCell ?_ (by first | (simp; done) | (simp; omega)) _ | refine below_bx2 ?_ _ | refine below_drw ?_ | refine below_to ?_ (by assumption))
      case rest =>
        obtain ⟨g, rfl, hg, hh, hb3⟩ := hcut
        rename World => wc
        have KG : Blk wc g #[.int .i64 (maxP a b p q).1, .int .i64 (maxP a b p q).2, .int .i64 (minP c d r s).1, .int .i64 (minP c d r s).2] 29 := hh
        have b3' := below_to b2' hb3
        have N2 := M2.to hb3
        clear hh hb3 b2' M0 M1 M2 H3 H4
        generalize hx1 : (maxP a b p q).1 = x1 at *
        generalize hx2 : (maxP a b p q).2 = x2 at *
        generalize hx3 : (minP c d r s).1 = x3 at *
        generalize hx4 : (minP c d r s).2 = x4 at *
        have k0 := KG.cell0 (i := 0) (v := .int .i64 x1) rfl
        have k1 := KG.cell0 (i := 1) (v := .int .i64 x2) rfl
        have k2 := KG.cell0 (i := 2) (v := .int .i64 x3) rfl
        have k3 := KG.cell0 (i := 3) (v := .int .i64 x4) rfl
        go_wp2_with fail
        refine (H5.out _).mono ?_
        rintro e w5 ⟨rfl, bl5⟩
        have b5 := below_to b3' bl5
        have N3 := N2.to bl5
        have K5 := KG.to bl5
        clear k0 k1 k2 k3 N2 KG b3' bl5 H5
        cases h5 : spnB x1 x2 x3 x4 with
        | false =>
          have z0 := N3.cell0 (i := 0) (v := .int .i64 0) rfl
          have z1 := N3.cell0 (i := 1) (v := .int .i64 0) rfl
          have z2 := N3.cell0 (i := 2) (v := .int .i64 0) rfl
          have z3 := N3.cell0 (i := 3) (v := .int .i64 0) rfl
          have f0 := N3.free 0
          have f1 := N3.free 1
          have f2 := N3.free 2
          have f3 := N3.free 3
          have HNN := Lib.hid (HNO.out (HN.out.trans h5))
          go_wp2_with fail
          exact bodyPost_ret (v := .tuple #[.agg #[.int .i64 0, .int .i64 0, .int .i64 0, .int .i64 0], .bool false]) (by simp [results, Try.results19, go_sem, z0, z1, z2, z3]) rfl ⟨by rw [HNN.out.1, HNN.out.2.1, HNN.out.2.2], ((((b5.setCell (p := ⟨w.heap.size + 1 + 1, 0, none⟩) (Nat.le_add_right _ 2) _).setCell (p := ⟨w.heap.size + 1 + 1, 1, none⟩) (Nat.le_add_right _ 2) _).setCell (p := ⟨w.heap.size + 1 + 1, 2, none⟩) (Nat.le_add_right _ 2) _).setCell (p := ⟨w.heap.size + 1 + 1, 3, none⟩) (Nat.le_add_right _ 2) _)⟩
        | true =>
          have HYY := Lib.hid (HY.out (HN.out.trans h5))
          have z0 := N3.cell0 (i := 0) (v := .int .i64 0) rfl
          have z1 := N3.cell0 (i := 1) (v := .int .i64 0) rfl
          have z2 := N3.cell0 (i := 2) (v := .int .i64 0) rfl
          have z3 := N3.cell0 (i := 3) (v := .int .i64 0) rfl
          have f0 := N3.free 0
          have f1 := N3.free 1
          have f2 := N3.free 2
          have f3 := N3.free 3
          have k0 := K5.cell0 (i := 0) (v := .int .i64 x1) rfl
          have k1 := K5.cell0 (i := 1) (v := .int .i64 x2) rfl
          have k2 := K5.cell0 (i := 2) (v := .int .i64 x3) rfl
          have k3 := K5.cell0 (i := 3) (v := .int .i64 x4) rfl
          have HB := Lib.hid ((((b5.setCell (p := ⟨w.heap.size + 1 + 1, 0, none⟩) (Nat.le_add_right _ 2) (.int .i64 x1)).setCell (p := ⟨w.heap.size + 1 + 1, 1, none⟩) (Nat.le_add_right _ 2) (.int .i64 x2)).setCell (p := ⟨w.heap.size + 1 + 1, 2, none⟩) (Nat.le_add_right _ 2) (.int .i64 x3)).setCell (p := ⟨w.heap.size + 1 + 1, 3, none⟩) (Nat.le_add_right _ 2) (.int .i64 x4))
          clear N3 K5
          go_wp2_with fail
          exact bodyPost_ret (v := .tuple #[.agg #[.int .i64 x1, .int .i64 x2, .int .i64 x3, .int .i64 x4], .bool true]) (by simp [results, Try.results19, go_sem, z0, z1, z2, z3]) rfl ⟨by rw [HYY.out.1, HYY.out.2.1, HYY.out.2.2, hx1, hx2, hx3, hx4], HB.out⟩
end Go.Proofs.Ytibkmhmeoelpdaa
