/- The contracts of RatioMin and RatioMax over the translation, and the walks of their laws. The walks of the laws of RatioMin and RatioMax. -/
import Derived.Test.YtibkmhmeoelpdaaGreatCq
import Derived.Deep.RegionHeld3
namespace Go.Proofs.YtibkmhmeoelpdaaGreat
open Go.RowKit

/-- the smaller and the greater of two valid fractions, or the zero value -/
def minP (a b c d : Int) : Int × Int := if okR a b = true ∧ okR c d = true then (if cmpR a b c d ≤ 0 then (a, b) else (c, d)) else (0, 0)
def maxP (a b c d : Int) : Int × Int := if okR a b = true ∧ okR c d = true then (if 0 ≤ cmpR a b c d then (a, b) else (c, d)) else (0, 0)

theorem boxed3 {w w1 : World} {a b c d x y : Value} {T U V : TypeId} (hb : Below (((w.alloc (.cells #[a, b] T)).alloc (.cells #[c, d] U)).alloc (.cells #[x, y] V)).heap.size (((w.alloc (.cells #[a, b] T)).alloc (.cells #[c, d] U)).alloc (.cells #[x, y] V)) w1) :
    w1.cell? ⟨w.heap.size, 0, none⟩ = some a ∧ w1.cell? ⟨w.heap.size, 1, none⟩ = some b ∧ w1.cell? ⟨w.heap.size + 1, 0, none⟩ = some c ∧ w1.cell? ⟨w.heap.size + 1, 1, none⟩ = some d ∧ w1.cell? ⟨w.heap.size + 1 + 1, 0, none⟩ = some x ∧ w1.cell? ⟨w.heap.size + 1 + 1, 1, none⟩ = some y ∧
    w1.frozen? ⟨w.heap.size + 1 + 1, 0, none⟩ = false ∧ w1.frozen? ⟨w.heap.size + 1 + 1, 1, none⟩ = false ∧ w.heap.size + 1 + 1 < w1.heap.size := by
  have h2 := boxed hb
  have h0 := boxed2 (w1 := w1) ((below_box ((w.alloc (.cells #[a, b] T)).alloc (.cells #[c, d] U)) (.cells #[x, y] V)).trans (hb.mono (by simp)))
  have hn := heap_alloc_new ((w.alloc (.cells #[a, b] T)).alloc (.cells #[c, d] U)) (.cells #[x, y] V)
  have hh := heap_below hb hn
  have f0 := frozen_of_row w1 _ 0 _ _ hh
  have f1 := frozen_of_row w1 _ 1 _ _ hh
  simp at h2 f0 f1
  exact ⟨h0.1, h0.2.1, h0.2.2.1, h0.2.2.2.1, h2.1, h2.2.1, f0, f1, h2.2.2⟩

set_option maxHeartbeats 1600000 in
theorem impl_min (a b c d : Int) (w : World) (ha : -9223372036854775808 ≤ a) (ha2 : a ≤ 9223372036854775807) (hb : -9223372036854775808 ≤ b) (hb2 : b ≤ 9223372036854775807) (hc : -9223372036854775808 ≤ c) (hc2 : c ≤ 9223372036854775807) (hd : -9223372036854775808 ≤ d) (hd2 : d ≤ 9223372036854775807) :
    Calls Tryz.prog 77 #[.agg #[.int .i64 a, .int .i64 b], .agg #[.int .i64 c, .int .i64 d]] w fun e w' => e = .returned (.agg #[.int .i64 (minP a b c d).1, .int .i64 (minP a b c d).2]) ∧ Below w.heap.size w w' := by
  have hw : Below w.heap.size w (((w.alloc (.cells #[.int .i64 a, .int .i64 b] 33)).alloc (.cells #[.int .i64 c, .int .i64 d] 33)).alloc (.cells #[.int .i64 0, .int .i64 0] 33)) := below_box2 (below_box2 (below_box _ _) _) _
  cases h1 : okR a b with
  | false =>
    rw [show minP a b c d = (0, 0) by unfold minP; rw [if_neg (by rw [h1]; simp)]]
    have H1 := Lib.hid h1
    clear h1
    go_enter Tryz.func77, Tryz.ntmps77
    go_wp2_with fail
    refine (impl_ok a b _ ha ha2 hb hb2).mono ?_
    rw [H1.out]
    rintro e w1 ⟨rfl, bl1⟩
    obtain ⟨p0, p1, p2, p3, p4, p5, f4, f5, hz⟩ := boxed3 bl1
    go_wp2_with fail
    refine bodyPost_ret (v := .agg #[.int .i64 0, .int .i64 0]) (by simp [results, Tryz.results77, go_sem, p4, p5]) rfl ⟨rfl, ?_⟩
    exact ((hw.trans (bl1.mono hw.size)).setCell (by simp; omega) _).setCell (by simp; omega) _
  | true =>
    cases h2 : okR c d with
    | false =>
      rw [show minP a b c d = (0, 0) by unfold minP; rw [if_neg (by rw [h2]; simp)]]
      have H1 := Lib.hid h1
      have H2 := Lib.hid h2
      clear h1 h2
      go_enter Tryz.func77, Tryz.ntmps77
      go_wp2_with fail
      refine (impl_ok a b _ ha ha2 hb hb2).mono ?_
      rw [H1.out]
      rintro e w1 ⟨rfl, bl1⟩
      obtain ⟨p0, p1, p2, p3, p4, p5, f4, f5, hz⟩ := boxed3 bl1
      go_wp2_with fail
      refine (impl_ok c d _ hc hc2 hd hd2).mono ?_
      rw [H2.out]
      rintro e w2 ⟨rfl, bl2⟩
      have bl12 := bl1.trans (bl2.mono bl1.size)
      clear p0 p1 p2 p3 p4 p5 f4 f5 hz bl1 bl2
      obtain ⟨p0, p1, p2, p3, p4, p5, f4, f5, hz⟩ := boxed3 bl12
      go_wp2_with fail
      refine bodyPost_ret (v := .agg #[.int .i64 0, .int .i64 0]) (by simp [results, Tryz.results77, go_sem, p4, p5]) rfl ⟨rfl, ?_⟩
      exact ((hw.trans (bl12.mono hw.size)).setCell (by simp; omega) _).setCell (by simp; omega) _
    | true =>
      have HO := Lib.hid (cmpO_of h1 h2)
      have HO2 := Lib.hid (cmpO_of h2 h1)
      have HP := Lib.hid (show minP a b c d = _ from if_pos ⟨h1, h2⟩)
      have H1 := Lib.hid h1
      have H2 := Lib.hid h2
      clear h1 h2
      by_cases hr : cmpR a b c d ≤ 0
      · rw [if_pos hr] at HP
        rw [HP.out]
        rw [show cmpR a b c d = -cmpR c d a b from cmpR_swap c d a b] at hr
        go_enter Tryz.func77, Tryz.ntmps77
        go_wp2_with fail
        refine (impl_ok a b _ ha ha2 hb hb2).mono ?_
        rw [H1.out]
        rintro e w1 ⟨rfl, bl1⟩
        obtain ⟨p0, p1, p2, p3, p4, p5, f4, f5, hz⟩ := boxed3 bl1
        go_wp2_with fail
        refine (impl_ok c d _ hc hc2 hd hd2).mono ?_
        rw [H2.out]
        rintro e w2 ⟨rfl, bl2⟩
        have bl12 := bl1.trans (bl2.mono bl1.size)
        clear p0 p1 p2 p3 p4 p5 f4 f5 hz bl1 bl2
        obtain ⟨p0, p1, p2, p3, p4, p5, f4, f5, hz⟩ := boxed3 bl12
        go_wp2_with fail
        refine (impl_cmp c d a b _ hc hc2 hd hd2 ha ha2 hb hb2).mono ?_
        rw [HO2.out]
        rintro e w3 ⟨rfl, bl3⟩
        have bl13 := bl12.trans (bl3.mono bl12.size)
        clear p0 p1 p2 p3 p4 p5 f4 f5 hz bl12 bl3
        obtain ⟨p0, p1, p2, p3, p4, p5, f4, f5, hz⟩ := boxed3 bl13
        generalize cmpR c d a b = r at *
        go_wp2_with fail
        refine bodyPost_ret (v := .agg #[.int .i64 a, .int .i64 b]) (by simp [results, Tryz.results77, go_sem, p4, p5]) rfl ⟨rfl, ?_⟩
        exact ((hw.trans (bl13.mono hw.size)).setCell (by simp; omega) _).setCell (by simp; omega) _
      · rw [if_neg hr] at HP
        rw [HP.out]
        rw [show cmpR a b c d = -cmpR c d a b from cmpR_swap c d a b] at hr
        go_enter Tryz.func77, Tryz.ntmps77
        go_wp2_with fail
        refine (impl_ok a b _ ha ha2 hb hb2).mono ?_
        rw [H1.out]
        rintro e w1 ⟨rfl, bl1⟩
        obtain ⟨p0, p1, p2, p3, p4, p5, f4, f5, hz⟩ := boxed3 bl1
        go_wp2_with fail
        refine (impl_ok c d _ hc hc2 hd hd2).mono ?_
        rw [H2.out]
        rintro e w2 ⟨rfl, bl2⟩
        have bl12 := bl1.trans (bl2.mono bl1.size)
        clear p0 p1 p2 p3 p4 p5 f4 f5 hz bl1 bl2
        obtain ⟨p0, p1, p2, p3, p4, p5, f4, f5, hz⟩ := boxed3 bl12
        go_wp2_with fail
        refine (impl_cmp c d a b _ hc hc2 hd hd2 ha ha2 hb hb2).mono ?_
        rw [HO2.out]
        rintro e w3 ⟨rfl, bl3⟩
        have bl13 := bl12.trans (bl3.mono bl12.size)
        clear p0 p1 p2 p3 p4 p5 f4 f5 hz bl12 bl3
        obtain ⟨p0, p1, p2, p3, p4, p5, f4, f5, hz⟩ := boxed3 bl13
        generalize cmpR c d a b = r at *
        go_wp2_with fail
        refine bodyPost_ret (v := .agg #[.int .i64 c, .int .i64 d]) (by simp [results, Tryz.results77, go_sem, p4, p5]) rfl ⟨rfl, ?_⟩
        exact ((hw.trans (bl13.mono hw.size)).setCell (by simp; omega) _).setCell (by simp; omega) _

set_option maxHeartbeats 1600000 in
theorem impl_max (a b c d : Int) (w : World) (ha : -9223372036854775808 ≤ a) (ha2 : a ≤ 9223372036854775807) (hb : -9223372036854775808 ≤ b) (hb2 : b ≤ 9223372036854775807) (hc : -9223372036854775808 ≤ c) (hc2 : c ≤ 9223372036854775807) (hd : -9223372036854775808 ≤ d) (hd2 : d ≤ 9223372036854775807) :
    Calls Tryz.prog 78 #[.agg #[.int .i64 a, .int .i64 b], .agg #[.int .i64 c, .int .i64 d]] w fun e w' => e = .returned (.agg #[.int .i64 (maxP a b c d).1, .int .i64 (maxP a b c d).2]) ∧ Below w.heap.size w w' := by
  have hw : Below w.heap.size w (((w.alloc (.cells #[.int .i64 a, .int .i64 b] 33)).alloc (.cells #[.int .i64 c, .int .i64 d] 33)).alloc (.cells #[.int .i64 0, .int .i64 0] 33)) := below_box2 (below_box2 (below_box _ _) _) _
  cases h1 : okR a b with
  | false =>
    rw [show maxP a b c d = (0, 0) by unfold maxP; rw [if_neg (by rw [h1]; simp)]]
    have H1 := Lib.hid h1
    clear h1
    go_enter Tryz.func78, Tryz.ntmps78
    go_wp2_with fail
    refine (impl_ok a b _ ha ha2 hb hb2).mono ?_
    rw [H1.out]
    rintro e w1 ⟨rfl, bl1⟩
    obtain ⟨p0, p1, p2, p3, p4, p5, f4, f5, hz⟩ := boxed3 bl1
    go_wp2_with fail
    refine bodyPost_ret (v := .agg #[.int .i64 0, .int .i64 0]) (by simp [results, Tryz.results78, go_sem, p4, p5]) rfl ⟨rfl, ?_⟩
    exact ((hw.trans (bl1.mono hw.size)).setCell (by simp; omega) _).setCell (by simp; omega) _
  | true =>
    cases h2 : okR c d with
    | false =>
      rw [show maxP a b c d = (0, 0) by unfold maxP; rw [if_neg (by rw [h2]; simp)]]
      have H1 := Lib.hid h1
      have H2 := Lib.hid h2
      clear h1 h2
      go_enter Tryz.func78, Tryz.ntmps78
      go_wp2_with fail
      refine (impl_ok a b _ ha ha2 hb hb2).mono ?_
      rw [H1.out]
      rintro e w1 ⟨rfl, bl1⟩
      obtain ⟨p0, p1, p2, p3, p4, p5, f4, f5, hz⟩ := boxed3 bl1
      go_wp2_with fail
      refine (impl_ok c d _ hc hc2 hd hd2).mono ?_
      rw [H2.out]
      rintro e w2 ⟨rfl, bl2⟩
      have bl12 := bl1.trans (bl2.mono bl1.size)
      clear p0 p1 p2 p3 p4 p5 f4 f5 hz bl1 bl2
      obtain ⟨p0, p1, p2, p3, p4, p5, f4, f5, hz⟩ := boxed3 bl12
      go_wp2_with fail
      refine bodyPost_ret (v := .agg #[.int .i64 0, .int .i64 0]) (by simp [results, Tryz.results78, go_sem, p4, p5]) rfl ⟨rfl, ?_⟩
      exact ((hw.trans (bl12.mono hw.size)).setCell (by simp; omega) _).setCell (by simp; omega) _
    | true =>
      have HO := Lib.hid (cmpO_of h1 h2)
      have HO2 := Lib.hid (cmpO_of h2 h1)
      have HP := Lib.hid (show maxP a b c d = _ from if_pos ⟨h1, h2⟩)
      have H1 := Lib.hid h1
      have H2 := Lib.hid h2
      clear h1 h2
      by_cases hr : 0 ≤ cmpR a b c d
      · rw [if_pos hr] at HP
        rw [HP.out]
        rw [show cmpR a b c d = -cmpR c d a b from cmpR_swap c d a b] at hr
        go_enter Tryz.func78, Tryz.ntmps78
        go_wp2_with fail
        refine (impl_ok a b _ ha ha2 hb hb2).mono ?_
        rw [H1.out]
        rintro e w1 ⟨rfl, bl1⟩
        obtain ⟨p0, p1, p2, p3, p4, p5, f4, f5, hz⟩ := boxed3 bl1
        go_wp2_with fail
        refine (impl_ok c d _ hc hc2 hd hd2).mono ?_
        rw [H2.out]
        rintro e w2 ⟨rfl, bl2⟩
        have bl12 := bl1.trans (bl2.mono bl1.size)
        clear p0 p1 p2 p3 p4 p5 f4 f5 hz bl1 bl2
        obtain ⟨p0, p1, p2, p3, p4, p5, f4, f5, hz⟩ := boxed3 bl12
        go_wp2_with fail
        refine (impl_cmp c d a b _ hc hc2 hd hd2 ha ha2 hb hb2).mono ?_
        rw [HO2.out]
        rintro e w3 ⟨rfl, bl3⟩
        have bl13 := bl12.trans (bl3.mono bl12.size)
        clear p0 p1 p2 p3 p4 p5 f4 f5 hz bl12 bl3
        obtain ⟨p0, p1, p2, p3, p4, p5, f4, f5, hz⟩ := boxed3 bl13
        generalize cmpR c d a b = r at *
        go_wp2_with fail
        refine bodyPost_ret (v := .agg #[.int .i64 a, .int .i64 b]) (by simp [results, Tryz.results78, go_sem, p4, p5]) rfl ⟨rfl, ?_⟩
        exact ((hw.trans (bl13.mono hw.size)).setCell (by simp; omega) _).setCell (by simp; omega) _
      · rw [if_neg hr] at HP
        rw [HP.out]
        rw [show cmpR a b c d = -cmpR c d a b from cmpR_swap c d a b] at hr
        go_enter Tryz.func78, Tryz.ntmps78
        go_wp2_with fail
        refine (impl_ok a b _ ha ha2 hb hb2).mono ?_
        rw [H1.out]
        rintro e w1 ⟨rfl, bl1⟩
        obtain ⟨p0, p1, p2, p3, p4, p5, f4, f5, hz⟩ := boxed3 bl1
        go_wp2_with fail
        refine (impl_ok c d _ hc hc2 hd hd2).mono ?_
        rw [H2.out]
        rintro e w2 ⟨rfl, bl2⟩
        have bl12 := bl1.trans (bl2.mono bl1.size)
        clear p0 p1 p2 p3 p4 p5 f4 f5 hz bl1 bl2
        obtain ⟨p0, p1, p2, p3, p4, p5, f4, f5, hz⟩ := boxed3 bl12
        go_wp2_with fail
        refine (impl_cmp c d a b _ hc hc2 hd hd2 ha ha2 hb hb2).mono ?_
        rw [HO2.out]
        rintro e w3 ⟨rfl, bl3⟩
        have bl13 := bl12.trans (bl3.mono bl12.size)
        clear p0 p1 p2 p3 p4 p5 f4 f5 hz bl12 bl3
        obtain ⟨p0, p1, p2, p3, p4, p5, f4, f5, hz⟩ := boxed3 bl13
        generalize cmpR c d a b = r at *
        go_wp2_with fail
        refine bodyPost_ret (v := .agg #[.int .i64 c, .int .i64 d]) (by simp [results, Tryz.results78, go_sem, p4, p5]) rfl ⟨rfl, ?_⟩
        exact ((hw.trans (bl13.mono hw.size)).setCell (by simp; omega) _).setCell (by simp; omega) _

end Go.Proofs.YtibkmhmeoelpdaaGreat
