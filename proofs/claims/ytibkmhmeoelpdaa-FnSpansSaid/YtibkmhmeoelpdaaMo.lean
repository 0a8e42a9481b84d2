/- The contracts of RatioMin and RatioMax over the translation, and the walks of their laws. The walks of the laws of RatioMin and RatioMax. -/
import Derived.Test.YtibkmhmeoelpdaaCq
import Derived.Deep.RegionHeld3
namespace Go.Proofs.Ytibkmhmeoelpdaa
open Go.RowKit

/-- the smaller and the greater of two valid fractions, or the zero value -/
def minP (a b c d : Int) : Int × Int := if okR a b = true ∧ okR c d = true then (if cmpR a b c d ≤ 0 then (a, b) else (c, d)) else (0, 0)
def maxP (a b c d : Int) : Int × Int := if okR a b = true ∧ okR c d = true then (if 0 ≤ cmpR a b c d then (a, b) else (c, d)) else (0, 0)

theorem boxed3 {w w1 : World} {a b c d x y : Value} {T U V : TypeId} (hb : Below (((w.alloc (.cells #[a, b] T)).alloc (.cells #[c, d] U)).alloc (.cells #[x, y] V)).heap.size (((w.alloc (.cells #[a, b] T)).alloc (.cells #[c, d] U)).alloc (.cells #[x, y] V)) w1) :
    w1.cell? ⟨w.heap.size, 0, none⟩ = some a ∧ w1.cell? ⟨w.heap.size, 1, none⟩ = some b ∧ w1.cell? ⟨w.heap.size + 1, 0, none⟩ = some c ∧ w1.cell? ⟨w.heap.size + 1, 1, none⟩ = some d ∧ w1.cell? ⟨w.heap.size + 1 + 1, 0, none⟩ = some x ∧ w1.cell? ⟨w.heap.size + 1 + 1, 1, none⟩ = some y ∧
    w1.frozen? ⟨w.heap.size + 1 + 1, 0, none⟩ = false ∧ w1.frozen? ⟨w.heap.size + 1 + 1, 1, none⟩ = false ∧ w.heap.size + 1 + 1 < w1.heap.size := by
  have h2 := boxed hb
  have h0 := boxed2 (w1 := w1) ((below_box ((w.alloc (.cells #[a, b] T)).alloc (.cells #[c, d] U)) (.cells #[x, y] V)).trans (hb.mono (by simp)))
  have hn := heap_alloc_new ((w.alloc (.cells #[a, b] T)).alloc (.cells #[c, d] U)) (.cells #[x, y] V)
  have hh := heap_below hb hn
  have f0 := frozen_of_row w1 _ 0 _ _ hh
  have f1 := frozen_of_row w1 _ 1 _ _ hh
  simp at h2 f0 f1
  exact ⟨h0.1, h0.2.1, h0.2.2.1, h0.2.2.2.1, h2.1, h2.2.1, f0, f1, h2.2.2⟩

set_option maxHeartbeats 1600000 in
theorem spec_min (a b c d : Int) (w : World) (ha : -9223372036854775808 ≤ a) (ha2 : a ≤ 9223372036854775807) (hb : -9223372036854775808 ≤ b) (hb2 : b ≤ 9223372036854775807) (hc : -9223372036854775808 ≤ c) (hc2 : c ≤ 9223372036854775807) (hd : -9223372036854775808 ≤ d) (hd2 : d ≤ 9223372036854775807) :
    Calls Try.prog 42 #[.agg #[.int .i64 a, .int .i64 b], .agg #[.int .i64 c, .int .i64 d]] w fun e w' => e = .returned (.agg #[.int .i64 (minP a b c d).1, .int .i64 (minP a b c d).2]) ∧ Below w.heap.size w w' := by
  have hw : Below w.heap.size w (((w.alloc (.cells #[.int .i64 a, .int .i64 b] 27)).alloc (.cells #[.int .i64 c, .int .i64 d] 27)).alloc (.cells #[.int .i64 0, .int .i64 0] 27)) := below_box2 (below_box2 (below_box _ _) _) _
  cases h1 : okR a b with
  | false =>
    rw [show minP a b c d = (0, 0) by unfold minP; rw [if_neg (by rw [h1]; simp)]]
    have H1 := Lib.hid h1
    clear h1
    go_enter Try.func42, Try.ntmps42
    go_wp2_with fail
    refine (spec_ok a b _ ha ha2 hb hb2).mono ?_
    rw [H1.out]
    rintro e w1 ⟨rfl, bl1⟩
    obtain ⟨p0, p1, p2, p3, p4, p5, f4, f5, hz⟩ := boxed3 bl1
    go_wp2_with fail
    refine bodyPost_ret (v := .agg #[.int .i64 0, .int .i64 0]) (by simp [results, Try.results42, go_sem, p4, p5]) rfl ⟨rfl, ?_⟩
    exact ((hw.trans (bl1.mono hw.size)).setCell (by simp; omega) _).setCell (by simp; omega) _
  | true =>
    cases h2 : okR c d with
    | false =>
      rw [show minP a b c d = (0, 0) by unfold minP; rw [if_neg (by rw [h2]; simp)]]
      have H1 := Lib.hid h1
      have H2 := Lib.hid h2
      clear h1 h2
      go_enter Try.func42, Try.ntmps42
      go_wp2_with fail
      refine (spec_ok a b _ ha ha2 hb hb2).mono ?_
      rw [H1.out]
      rintro e w1 ⟨rfl, bl1⟩
      obtain ⟨p0, p1, p2, p3, p4, p5, f4, f5, hz⟩ := boxed3 bl1
      go_wp2_with fail
      refine (spec_ok c d _ hc hc2 hd hd2).mono ?_
      rw [H2.out]
      rintro e w2 ⟨rfl, bl2⟩
      have bl12 := bl1.trans (bl2.mono bl1.size)
      clear p0 p1 p2 p3 p4 p5 f4 f5 hz bl1 bl2
      obtain ⟨p0, p1, p2, p3, p4, p5, f4, f5, hz⟩ := boxed3 bl12
      go_wp2_with fail
      refine bodyPost_ret (v := .agg #[.int .i64 0, .int .i64 0]) (by simp [results, Try.results42, go_sem, p4, p5]) rfl ⟨rfl, ?_⟩
      exact ((hw.trans (bl12.mono hw.size)).setCell (by simp; omega) _).setCell (by simp; omega) _
    | true =>
      have HO := Lib.hid (cmpO_of h1 h2)
      have HO2 := Lib.hid (cmpO_of h2 h1)
      have HP := Lib.hid (show minP a b c d = _ from if_pos ⟨h1, h2⟩)
      have H1 := Lib.hid h1
      have H2 := Lib.hid h2
      clear h1 h2
      by_cases hr : cmpR a b c d ≤ 0
      · rw [if_pos hr] at HP
        rw [HP.out]
        go_enter Try.func42, Try.ntmps42
        go_wp2_with fail
        refine (spec_ok a b _ ha ha2 hb hb2).mono ?_
        rw [H1.out]
        rintro e w1 ⟨rfl, bl1⟩
        obtain ⟨p0, p1, p2, p3, p4, p5, f4, f5, hz⟩ := boxed3 bl1
        go_wp2_with fail
        refine (spec_ok c d _ hc hc2 hd hd2).mono ?_
        rw [H2.out]
        rintro e w2 ⟨rfl, bl2⟩
        have bl12 := bl1.trans (bl2.mono bl1.size)
        clear p0 p1 p2 p3 p4 p5 f4 f5 hz bl1 bl2
        obtain ⟨p0, p1, p2, p3, p4, p5, f4, f5, hz⟩ := boxed3 bl12
        go_wp2_with fail
        refine (spec_cmp a b c d _ ha ha2 hb hb2 hc hc2 hd hd2).mono ?_
        rw [HO.out]
        rintro e w3 ⟨rfl, bl3⟩
        have bl13 := bl12.trans (bl3.mono bl12.size)
        clear p0 p1 p2 p3 p4 p5 f4 f5 hz bl12 bl3
        obtain ⟨p0, p1, p2, p3, p4, p5, f4, f5, hz⟩ := boxed3 bl13
        generalize cmpR a b c d = r at *
        go_wp2_with fail
        refine bodyPost_ret (v := .agg #[.int .i64 a, .int .i64 b]) (by simp [results, Try.results42, go_sem, p4, p5]) rfl ⟨rfl, ?_⟩
        exact ((hw.trans (bl13.mono hw.size)).setCell (by simp; omega) _).setCell (by simp; omega) _
      · rw [if_neg hr] at HP
        rw [HP.out]
        go_enter Try.func42, Try.ntmps42
        go_wp2_with fail
        refine (spec_ok a b _ ha ha2 hb hb2).mono ?_
        rw [H1.out]
        rintro e w1 ⟨rfl, bl1⟩
        obtain ⟨p0, p1, p2, p3, p4, p5, f4, f5, hz⟩ := boxed3 bl1
        go_wp2_with fail
        refine (spec_ok c d _ hc hc2 hd hd2).mono ?_
        rw [H2.out]
        rintro e w2 ⟨rfl, bl2⟩
        have bl12 := bl1.trans (bl2.mono bl1.size)
        clear p0 p1 p2 p3 p4 p5 f4 f5 hz bl1 bl2
        obtain ⟨p0, p1, p2, p3, p4, p5, f4, f5, hz⟩ := boxed3 bl12
        go_wp2_with fail
        refine (spec_cmp a b c d _ ha ha2 hb hb2 hc hc2 hd hd2).mono ?_
        rw [HO.out]
        rintro e w3 ⟨rfl, bl3⟩
        have bl13 := bl12.trans (bl3.mono bl12.size)
        clear p0 p1 p2 p3 p4 p5 f4 f5 hz bl12 bl3
        obtain ⟨p0, p1, p2, p3, p4, p5, f4, f5, hz⟩ := boxed3 bl13
        generalize cmpR a b c d = r at *
        go_wp2_with fail
        refine bodyPost_ret (v := .agg #[.int .i64 c, .int .i64 d]) (by simp [results, Try.results42, go_sem, p4, p5]) rfl ⟨rfl, ?_⟩
        exact ((hw.trans (bl13.mono hw.size)).setCell (by simp; omega) _).setCell (by simp; omega) _

set_option maxHeartbeats 1600000 in
theorem impl_min (a b c d : Int) (w : World) (ha : -9223372036854775808 ≤ a) (ha2 : a ≤ 9223372036854775807) (hb : -9223372036854775808 ≤ b) (hb2 : b ≤ 9223372036854775807) (hc : -9223372036854775808 ≤ c) (hc2 : c ≤ 9223372036854775807) (hd : -9223372036854775808 ≤ d) (hd2 : d ≤ 9223372036854775807) :
    Calls Try.prog 46 #[.agg #[.int .i64 a, .int .i64 b], .agg #[.int .i64 c, .int .i64 d]] w fun e w' => e = .returned (.agg #[.int .i64 (minP a b c d).1, .int .i64 (minP a b c d).2]) ∧ Below w.heap.size w w' := by
  have hw : Below w.heap.size w (((w.alloc (.cells #[.int .i64 a, .int .i64 b] 27)).alloc (.cells #[.int .i64 c, .int .i64 d] 27)).alloc (.cells #[.int .i64 0, .int .i64 0] 27)) := below_box2 (below_box2 (below_box _ _) _) _
  cases h1 : okR a b with
  | false =>
    rw [show minP a b c d = (0, 0) by unfold minP; rw [if_neg (by rw [h1]; simp)]]
    have H1 := Lib.hid h1
    clear h1
    go_enter Try.func46, Try.ntmps46
    go_wp2_with fail
    refine (impl_ok a b _ ha ha2 hb hb2).mono ?_
    rw [H1.out]
    rintro e w1 ⟨rfl, bl1⟩
    obtain ⟨p0, p1, p2, p3, p4, p5, f4, f5, hz⟩ := boxed3 bl1
    go_wp2_with fail
    refine bodyPost_ret (v := .agg #[.int .i64 0, .int .i64 0]) (by simp [results, Try.results46, go_sem, p4, p5]) rfl ⟨rfl, ?_⟩
    exact ((hw.trans (bl1.mono hw.size)).setCell (by simp; omega) _).setCell (by simp; omega) _
  | true =>
    cases h2 : okR c d with
    | false =>
      rw [show minP a b c d = (0, 0) by unfold minP; rw [if_neg (by rw [h2]; simp)]]
      have H1 := Lib.hid h1
      have H2 := Lib.hid h2
      clear h1 h2
      go_enter Try.func46, Try.ntmps46
      go_wp2_with fail
      refine (impl_ok a b _ ha ha2 hb hb2).mono ?_
      rw [H1.out]
      rintro e w1 ⟨rfl, bl1⟩
      obtain ⟨p0, p1, p2, p3, p4, p5, f4, f5, hz⟩ := boxed3 bl1
      go_wp2_with fail
      refine (impl_ok c d _ hc hc2 hd hd2).mono ?_
      rw [H2.out]
      rintro e w2 ⟨rfl, bl2⟩
      have bl12 := bl1.trans (bl2.mono bl1.size)
      clear p0 p1 p2 p3 p4 p5 f4 f5 hz bl1 bl2
      obtain ⟨p0, p1, p2, p3, p4, p5, f4, f5, hz⟩ := boxed3 bl12
      go_wp2_with fail
      refine bodyPost_ret (v := .agg #[.int .i64 0, .int .i64 0]) (by simp [results, Try.results46, go_sem, p4, p5]) rfl ⟨rfl, ?_⟩
      exact ((hw.trans (bl12.mono hw.size)).setCell (by simp; omega) _).setCell (by simp; omega) _
    | true =>
      have HO := Lib.hid (cmpO_of h1 h2)
      have HO2 := Lib.hid (cmpO_of h2 h1)
      have HP := Lib.hid (show minP a b c d = _ from if_pos ⟨h1, h2⟩)
      have H1 := Lib.hid h1
      have H2 := Lib.hid h2
      clear h1 h2
      by_cases hr : cmpR a b c d ≤ 0
      · rw [if_pos hr] at HP
        rw [HP.out]
        rw [show cmpR a b c d = -cmpR c d a b from cmpR_swap c d a b] at hr
        go_enter Try.func46, Try.ntmps46
        go_wp2_with fail
        refine (impl_ok a b _ ha ha2 hb hb2).mono ?_
        rw [H1.out]
        rintro e w1 ⟨rfl, bl1⟩
        obtain ⟨p0, p1, p2, p3, p4, p5, f4, f5, hz⟩ := boxed3 bl1
        go_wp2_with fail
        refine (impl_ok c d _ hc hc2 hd hd2).mono ?_
        rw [H2.out]
        rintro e w2 ⟨rfl, bl2⟩
        have bl12 := bl1.trans (bl2.mono bl1.size)
        clear p0 p1 p2 p3 p4 p5 f4 f5 hz bl1 bl2
        obtain ⟨p0, p1, p2, p3, p4, p5, f4, f5, hz⟩ := boxed3 bl12
        go_wp2_with fail
        refine (impl_cmp c d a b _ hc hc2 hd hd2 ha ha2 hb hb2).mono ?_
        rw [HO2.out]
        rintro e w3 ⟨rfl, bl3⟩
        have bl13 := bl12.trans (bl3.mono bl12.size)
        clear p0 p1 p2 p3 p4 p5 f4 f5 hz bl12 bl3
        obtain ⟨p0, p1, p2, p3, p4, p5, f4, f5, hz⟩ := boxed3 bl13
        generalize cmpR c d a b = r at *
        go_wp2_with fail
        refine bodyPost_ret (v := .agg #[.int .i64 a, .int .i64 b]) (by simp [results, Try.results46, go_sem, p4, p5]) rfl ⟨rfl, ?_⟩
        exact ((hw.trans (bl13.mono hw.size)).setCell (by simp; omega) _).setCell (by simp; omega) _
      · rw [if_neg hr] at HP
        rw [HP.out]
        rw [show cmpR a b c d = -cmpR c d a b from cmpR_swap c d a b] at hr
        go_enter Try.func46, Try.ntmps46
        go_wp2_with fail
        refine (impl_ok a b _ ha ha2 hb hb2).mono ?_
        rw [H1.out]
        rintro e w1 ⟨rfl, bl1⟩
        obtain ⟨p0, p1, p2, p3, p4, p5, f4, f5, hz⟩ := boxed3 bl1
        go_wp2_with fail
        refine (impl_ok c d _ hc hc2 hd hd2).mono ?_
        rw [H2.out]
        rintro e w2 ⟨rfl, bl2⟩
        have bl12 := bl1.trans (bl2.mono bl1.size)
        clear p0 p1 p2 p3 p4 p5 f4 f5 hz bl1 bl2
        obtain ⟨p0, p1, p2, p3, p4, p5, f4, f5, hz⟩ := boxed3 bl12
        go_wp2_with fail
        refine (impl_cmp c d a b _ hc hc2 hd hd2 ha ha2 hb hb2).mono ?_
        rw [HO2.out]
        rintro e w3 ⟨rfl, bl3⟩
        have bl13 := bl12.trans (bl3.mono bl12.size)
        clear p0 p1 p2 p3 p4 p5 f4 f5 hz bl12 bl3
        obtain ⟨p0, p1, p2, p3, p4, p5, f4, f5, hz⟩ := boxed3 bl13
        generalize cmpR c d a b = r at *
        go_wp2_with fail
        refine bodyPost_ret (v := .agg #[.int .i64 c, .int .i64 d]) (by simp [results, Try.results46, go_sem, p4, p5]) rfl ⟨rfl, ?_⟩
        exact ((hw.trans (bl13.mono hw.size)).setCell (by simp; omega) _).setCell (by simp; omega) _

set_option maxHeartbeats 1600000 in
theorem spec_max (a b c d : Int) (w : World) (ha : -9223372036854775808 ≤ a) (ha2 : a ≤ 9223372036854775807) (hb : -9223372036854775808 ≤ b) (hb2 : b ≤ 9223372036854775807) (hc : -9223372036854775808 ≤ c) (hc2 : c ≤ 9223372036854775807) (hd : -9223372036854775808 ≤ d) (hd2 : d ≤ 9223372036854775807) :
    Calls Try.prog 43 #[.agg #[.int .i64 a, .int .i64 b], .agg #[.int .i64 c, .int .i64 d]] w fun e w' => e = .returned (.agg #[.int .i64 (maxP a b c d).1, .int .i64 (maxP a b c d).2]) ∧ Below w.heap.size w w' := by
  have hw : Below w.heap.size w (((w.alloc (.cells #[.int .i64 a, .int .i64 b] 27)).alloc (.cells #[.int .i64 c, .int .i64 d] 27)).alloc (.cells #[.int .i64 0, .int .i64 0] 27)) := below_box2 (below_box2 (below_box _ _) _) _
  cases h1 : okR a b with
  | false =>
    rw [show maxP a b c d = (0, 0) by unfold maxP; rw [if_neg (by rw [h1]; simp)]]
    have H1 := Lib.hid h1
    clear h1
    go_enter Try.func43, Try.ntmps43
    go_wp2_with fail
    refine (spec_ok a b _ ha ha2 hb hb2).mono ?_
    rw [H1.out]
    rintro e w1 ⟨rfl, bl1⟩
    obtain ⟨p0, p1, p2, p3, p4, p5, f4, f5, hz⟩ := boxed3 bl1
    go_wp2_with fail
    refine bodyPost_ret (v := .agg #[.int .i64 0, .int .i64 0]) (by simp [results, Try.results43, go_sem, p4, p5]) rfl ⟨rfl, ?_⟩
    exact ((hw.trans (bl1.mono hw.size)).setCell (by simp; omega) _).setCell (by simp; omega) _
  | true =>
    cases h2 : okR c d with
    | false =>
      rw [show maxP a b c d = (0, 0) by unfold maxP; rw [if_neg (by rw [h2]; simp)]]
      have H1 := Lib.hid h1
      have H2 := Lib.hid h2
      clear h1 h2
      go_enter Try.func43, Try.ntmps43
      go_wp2_with fail
      refine (spec_ok a b _ ha ha2 hb hb2).mono ?_
      rw [H1.out]
      rintro e w1 ⟨rfl, bl1⟩
      obtain ⟨p0, p1, p2, p3, p4, p5, f4, f5, hz⟩ := boxed3 bl1
      go_wp2_with fail
      refine (spec_ok c d _ hc hc2 hd hd2).mono ?_
      rw [H2.out]
      rintro e w2 ⟨rfl, bl2⟩
      have bl12 := bl1.trans (bl2.mono bl1.size)
      clear p0 p1 p2 p3 p4 p5 f4 f5 hz bl1 bl2
      obtain ⟨p0, p1, p2, p3, p4, p5, f4, f5, hz⟩ := boxed3 bl12
      go_wp2_with fail
      refine bodyPost_ret (v := .agg #[.int .i64 0, .int .i64 0]) (by simp [results, Try.results43, go_sem, p4, p5]) rfl ⟨rfl, ?_⟩
      exact ((hw.trans (bl12.mono hw.size)).setCell (by simp; omega) _).setCell (by simp; omega) _
    | true =>
      have HO := Lib.hid (cmpO_of h1 h2)
      have HO2 := Lib.hid (cmpO_of h2 h1)
      have HP := Lib.hid (show maxP a b c d = _ from if_pos ⟨h1, h2⟩)
      have H1 := Lib.hid h1
      have H2 := Lib.hid h2
      clear h1 h2
      by_cases hr : 0 ≤ cmpR a b c d
      · rw [if_pos hr] at HP
        rw [HP.out]
        go_enter Try.func43, Try.ntmps43
        go_wp2_with fail
        refine (spec_ok a b _ ha ha2 hb hb2).mono ?_
        rw [H1.out]
        rintro e w1 ⟨rfl, bl1⟩
        obtain ⟨p0, p1, p2, p3, p4, p5, f4, f5, hz⟩ := boxed3 bl1
        go_wp2_with fail
        refine (spec_ok c d _ hc hc2 hd hd2).mono ?_
        rw [H2.out]
        rintro e w2 ⟨rfl, bl2⟩
        have bl12 := bl1.trans (bl2.mono bl1.size)
        clear p0 p1 p2 p3 p4 p5 f4 f5 hz bl1 bl2
        obtain ⟨p0, p1, p2, p3, p4, p5, f4, f5, hz⟩ := boxed3 bl12
        go_wp2_with fail
        refine (spec_cmp a b c d _ ha ha2 hb hb2 hc hc2 hd hd2).mono ?_
        rw [HO.out]
        rintro e w3 ⟨rfl, bl3⟩
        have bl13 := bl12.trans (bl3.mono bl12.size)
        clear p0 p1 p2 p3 p4 p5 f4 f5 hz bl12 bl3
        obtain ⟨p0, p1, p2, p3, p4, p5, f4, f5, hz⟩ := boxed3 bl13
        generalize cmpR a b c d = r at *
        go_wp2_with fail
        refine bodyPost_ret (v := .agg #[.int .i64 a, .int .i64 b]) (by simp [results, Try.results43, go_sem, p4, p5]) rfl ⟨rfl, ?_⟩
        exact ((hw.trans (bl13.mono hw.size)).setCell (by simp; omega) _).setCell (by simp; omega) _
      · rw [if_neg hr] at HP
        rw [HP.out]
        go_enter Try.func43, Try.ntmps43
        go_wp2_with fail
        refine (spec_ok a b _ ha ha2 hb hb2).mono ?_
        rw [H1.out]
        rintro e w1 ⟨rfl, bl1⟩
        obtain ⟨p0, p1, p2, p3, p4, p5, f4, f5, hz⟩ := boxed3 bl1
        go_wp2_with fail
        refine (spec_ok c d _ hc hc2 hd hd2).mono ?_
        rw [H2.out]
        rintro e w2 ⟨rfl, bl2⟩
        have bl12 := bl1.trans (bl2.mono bl1.size)
        clear p0 p1 p2 p3 p4 p5 f4 f5 hz bl1 bl2
        obtain ⟨p0, p1, p2, p3, p4, p5, f4, f5, hz⟩ := boxed3 bl12
        go_wp2_with fail
        refine (spec_cmp a b c d _ ha ha2 hb hb2 hc hc2 hd hd2).mono ?_
        rw [HO.out]
        rintro e w3 ⟨rfl, bl3⟩
        have bl13 := bl12.trans (bl3.mono bl12.size)
        clear p0 p1 p2 p3 p4 p5 f4 f5 hz bl12 bl3
        obtain ⟨p0, p1, p2, p3, p4, p5, f4, f5, hz⟩ := boxed3 bl13
        generalize cmpR a b c d = r at *
        go_wp2_with fail
        refine bodyPost_ret (v := .agg #[.int .i64 c, .int .i64 d]) (by simp [results, Try.results43, go_sem, p4, p5]) rfl ⟨rfl, ?_⟩
        exact ((hw.trans (bl13.mono hw.size)).setCell (by simp; omega) _).setCell (by simp; omega) _

set_option maxHeartbeats 1600000 in
theorem impl_max (a b c d : Int) (w : World) (ha : -9223372036854775808 ≤ a) (ha2 : a ≤ 9223372036854775807) (hb : -9223372036854775808 ≤ b) (hb2 : b ≤ 9223372036854775807) (hc : -9223372036854775808 ≤ c) (hc2 : c ≤ 9223372036854775807) (hd : -9223372036854775808 ≤ d) (hd2 : d ≤ 9223372036854775807) :
    Calls Try.prog 47 #[.agg #[.int .i64 a, .int .i64 b], .agg #[.int .i64 c, .int .i64 d]] w fun e w' => e = .returned (.agg #[.int .i64 (maxP a b c d).1, .int .i64 (maxP a b c d).2]) ∧ Below w.heap.size w w' := by
  have hw : Below w.heap.size w (((w.alloc (.cells #[.int .i64 a, .int .i64 b] 27)).alloc (.cells #[.int .i64 c, .int .i64 d] 27)).alloc (.cells #[.int .i64 0, .int .i64 0] 27)) := below_box2 (below_box2 (below_box _ _) _) _
  cases h1 : okR a b with
  | false =>
    rw [show maxP a b c d = (0, 0) by unfold maxP; rw [if_neg (by rw [h1]; simp)]]
    have H1 := Lib.hid h1
    clear h1
    go_enter Try.func47, Try.ntmps47
    go_wp2_with fail
    refine (impl_ok a b _ ha ha2 hb hb2).mono ?_
    rw [H1.out]
    rintro e w1 ⟨rfl, bl1⟩
    obtain ⟨p0, p1, p2, p3, p4, p5, f4, f5, hz⟩ := boxed3 bl1
    go_wp2_with fail
    refine bodyPost_ret (v := .agg #[.int .i64 0, .int .i64 0]) (by simp [results, Try.results47, go_sem, p4, p5]) rfl ⟨rfl, ?_⟩
    exact ((hw.trans (bl1.mono hw.size)).setCell (by simp; omega) _).setCell (by simp; omega) _
  | true =>
    cases h2 : okR c d with
    | false =>
      rw [show maxP a b c d = (0, 0) by unfold maxP; rw [if_neg (by rw [h2]; simp)]]
      have H1 := Lib.hid h1
      have H2 := Lib.hid h2
      clear h1 h2
      go_enter Try.func47, Try.ntmps47
      go_wp2_with fail
      refine (impl_ok a b _ ha ha2 hb hb2).mono ?_
      rw [H1.out]
      rintro e w1 ⟨rfl, bl1⟩
      obtain ⟨p0, p1, p2, p3, p4, p5, f4, f5, hz⟩ := boxed3 bl1
      go_wp2_with fail
      refine (impl_ok c d _ hc hc2 hd hd2).mono ?_
      rw [H2.out]
      rintro e w2 ⟨rfl, bl2⟩
      have bl12 := bl1.trans (bl2.mono bl1.size)
      clear p0 p1 p2 p3 p4 p5 f4 f5 hz bl1 bl2
      obtain ⟨p0, p1, p2, p3, p4, p5, f4, f5, hz⟩ := boxed3 bl12
      go_wp2_with fail
      refine bodyPost_ret (v := .agg #[.int .i64 0, .int .i64 0]) (by simp [results, Try.results47, go_sem, p4, p5]) rfl ⟨rfl, ?_⟩
      exact ((hw.trans (bl12.mono hw.size)).setCell (by simp; omega) _).setCell (by simp; omega) _
    | true =>
      have HO := Lib.hid (cmpO_of h1 h2)
      have HO2 := Lib.hid (cmpO_of h2 h1)
      have HP := Lib.hid (show maxP a b c d = _ from if_pos ⟨h1, h2⟩)
      have H1 := Lib.hid h1
      have H2 := Lib.hid h2
      clear h1 h2
      by_cases hr : 0 ≤ cmpR a b c d
      · rw [if_pos hr] at HP
        rw [HP.out]
        rw [show cmpR a b c d = -cmpR c d a b from cmpR_swap c d a b] at hr
        go_enter Try.func47, Try.ntmps47
        go_wp2_with fail
        refine (impl_ok a b _ ha ha2 hb hb2).mono ?_
        rw [H1.out]
        rintro e w1 ⟨rfl, bl1⟩
        obtain ⟨p0, p1, p2, p3, p4, p5, f4, f5, hz⟩ := boxed3 bl1
        go_wp2_with fail
        refine (impl_ok c d _ hc hc2 hd hd2).mono ?_
        rw [H2.out]
        rintro e w2 ⟨rfl, bl2⟩
        have bl12 := bl1.trans (bl2.mono bl1.size)
        clear p0 p1 p2 p3 p4 p5 f4 f5 hz bl1 bl2
        obtain ⟨p0, p1, p2, p3, p4, p5, f4, f5, hz⟩ := boxed3 bl12
        go_wp2_with fail
        refine (impl_cmp c d a b _ hc hc2 hd hd2 ha ha2 hb hb2).mono ?_
        rw [HO2.out]
        rintro e w3 ⟨rfl, bl3⟩
        have bl13 := bl12.trans (bl3.mono bl12.size)
        clear p0 p1 p2 p3 p4 p5 f4 f5 hz bl12 bl3
        obtain ⟨p0, p1, p2, p3, p4, p5, f4, f5, hz⟩ := boxed3 bl13
        generalize cmpR c d a b = r at *
        go_wp2_with fail
        refine bodyPost_ret (v := .agg #[.int .i64 a, .int .i64 b]) (by simp [results, Try.results47, go_sem, p4, p5]) rfl ⟨rfl, ?_⟩
        exact ((hw.trans (bl13.mono hw.size)).setCell (by simp; omega) _).setCell (by simp; omega) _
      · rw [if_neg hr] at HP
        rw [HP.out]
        rw [show cmpR a b c d = -cmpR c d a b from cmpR_swap c d a b] at hr
        go_enter Try.func47, Try.ntmps47
        go_wp2_with fail
        refine (impl_ok a b _ ha ha2 hb hb2).mono ?_
        rw [H1.out]
        rintro e w1 ⟨rfl, bl1⟩
        obtain ⟨p0, p1, p2, p3, p4, p5, f4, f5, hz⟩ := boxed3 bl1
        go_wp2_with fail
        refine (impl_ok c d _ hc hc2 hd hd2).mono ?_
        rw [H2.out]
        rintro e w2 ⟨rfl, bl2⟩
        have bl12 := bl1.trans (bl2.mono bl1.size)
        clear p0 p1 p2 p3 p4 p5 f4 f5 hz bl1 bl2
        obtain ⟨p0, p1, p2, p3, p4, p5, f4, f5, hz⟩ := boxed3 bl12
        go_wp2_with fail
        refine (impl_cmp c d a b _ hc hc2 hd hd2 ha ha2 hb hb2).mono ?_
        rw [HO2.out]
        rintro e w3 ⟨rfl, bl3⟩
        have bl13 := bl12.trans (bl3.mono bl12.size)
        clear p0 p1 p2 p3 p4 p5 f4 f5 hz bl12 bl3
        obtain ⟨p0, p1, p2, p3, p4, p5, f4, f5, hz⟩ := boxed3 bl13
        generalize cmpR c d a b = r at *
        go_wp2_with fail
        refine bodyPost_ret (v := .agg #[.int .i64 c, .int .i64 d]) (by simp [results, Try.results47, go_sem, p4, p5]) rfl ⟨rfl, ?_⟩
        exact ((hw.trans (bl13.mono hw.size)).setCell (by simp; omega) _).setCell (by simp; omega) _

theorem bcell2 {W w1 : World} (hb : Below W.heap.size W w1) : (∀ b o, b < W.heap.size → w1.cell? ⟨b, o, none⟩ = W.cell? ⟨b, o, none⟩) ∧ (∀ b o, b < W.heap.size → w1.frozen? ⟨b, o, none⟩ = W.frozen? ⟨b, o, none⟩) :=
  ⟨fun b o h => hb.cell (p := ⟨b, o, none⟩) h, fun b o h => hb.frozen (p := ⟨b, o, none⟩) h⟩

set_option maxHeartbeats 800000 in
theorem eq_ratio (n d : Int) (w : World) :
    Calls Try.prog 18 #[.agg #[.int .i64 n, .int .i64 d], .agg #[.int .i64 n, .int .i64 d]] w fun e w' => e = .returned (.bool true) ∧ Below w.heap.size w w' := by
  go_enter Try.func18, Try.ntmps18
  go_wp2
  go_ret
  exact ⟨rfl, below_box2 (below_box _ _) _⟩

theorem below_tr {V W X : World} (h : Below V.heap.size V W) (k : Below W.heap.size W X) : Below V.heap.size V X := h.trans (k.mono h.size)
theorem four {V X : World} {g h : Nat} {a b c d : Value} (hb : Below V.heap.size V X) (p0 : V.cell? ⟨g, 0, none⟩ = some a) (p1 : V.cell? ⟨g, 1, none⟩ = some b) (p2 : V.cell? ⟨h, 0, none⟩ = some c) (p3 : V.cell? ⟨h, 1, none⟩ = some d) :
    X.cell? ⟨g, 0, none⟩ = some a ∧ X.cell? ⟨g, 1, none⟩ = some b ∧ X.cell? ⟨h, 0, none⟩ = some c ∧ X.cell? ⟨h, 1, none⟩ = some d :=
  ⟨by rw [hb.cell (block_lt_of_cell p0)]; exact p0, by rw [hb.cell (block_lt_of_cell p1)]; exact p1, by rw [hb.cell (block_lt_of_cell p2)]; exact p2, by rw [hb.cell (block_lt_of_cell p3)]; exact p3⟩
/-- a result that lies in a new block -/
def Lies (W : World) (n d : Int) (v : Value) (wx : World) : Prop := ∃ g, v = .pointer (some ⟨g, 0, none⟩) ∧ W.heap.size ≤ g ∧ wx.heap[g]? = some (.cells #[.int .i64 n, .int .i64 d] 27 (0, 0)) ∧ Below W.heap.size W wx

theorem heap_set2 {w : World} {g : Nat} {x y : Value} {T : TypeId} (a b : Value) (h0 : w.heap[g]? = some (.cells #[x, y] T (0, 0))) : ((w.setCell ⟨g, 0, none⟩ a).setCell ⟨g, 1, none⟩ b).heap[g]? = some (.cells #[a, b] T (0, 0)) := by
  have a0 := heap_setCell_same w g 0 _ T a h0
  exact heap_setCell_same _ g 1 _ T b a0
theorem at_new {U W : World} {Z : Obj} {g : Nat} (hb : Below (U.alloc Z).heap.size (U.alloc Z) W) (hg : g = U.heap.size) : W.heap[g]? = some Z := by
  subst hg; exact heap_below hb (heap_alloc_new U Z)

end Go.Proofs.Ytibkmhmeoelpdaa
