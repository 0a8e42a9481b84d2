/- The contracts of the functions that round, over the translation, and the walks of their laws. -/
import Derived.Test.YtplangahbabloaaOk
namespace Go.Proofs.Ytplangahbabloaa
open Go.RowKit

theorem tdiv_range (a b : Int) (hb : 0 < b) (ha : -1000000000000000000 ≤ a) (ha2 : a ≤ 1000000000000000000) : -1000000000000000000 ≤ a.tdiv b ∧ a.tdiv b ≤ 1000000000000000000 := by
  have h := floor_range a b hb ha ha2
  by_cases h1 : a.tmod b < 0
  · have h2 := floor_neg a b hb h1
    have h3 : a / b < 1000000000000000000 := by
      apply Int.ediv_lt_of_lt_mul hb
      have h4 : a < 0 := by
        rcases Int.lt_or_le a 0 with h3 | h3
        · exact h3
        · have := Int.tmod_nonneg b h3; omega
      have : 0 ≤ 1000000000000000000 * b := Int.mul_nonneg (by omega) (by omega)
      omega
    omega
  · rw [floor_pos a b hb h1]; exact h

theorem spec_floor (a b : Int) (w : World) (hb : 0 < b) (hb2 : b ≤ 1000000000000000000) (ha : -1000000000000000000 ≤ a) (ha2 : a ≤ 1000000000000000000) :
    Calls Try.prog 30 #[.int .i64 a, .int .i64 b] w fun e w' => e = .returned (.int .i64 (a / b)) ∧ w' = w := by
  obtain ⟨h1, h2⟩ := tdiv_range a b hb ha ha2
  by_cases h : a.tmod b < 0
  · have HF := Lib.hid (floor_neg a b hb h)
    go_enter Try.func30, Try.ntmps30
    go_wp2
    go_ret
    exact ⟨ret_int HF.out, rfl⟩
  · have HF := Lib.hid (floor_pos a b hb h)
    go_enter Try.func30, Try.ntmps30
    go_wp2
    go_ret
    exact ⟨ret_int HF.out, rfl⟩

theorem whole (a b : Int) (w : World) (hb : 0 < b) (hb2 : b ≤ 1000000000000000000) (ha : -1000000000000000000 ≤ a) (ha2 : a ≤ 1000000000000000000) :
    Calls Try.prog 31 #[.agg #[.int .i64 a, .int .i64 b]] w fun e w' => e = .returned (.int .i64 (a / b)) ∧ w' = w.alloc (.cells #[.int .i64 a, .int .i64 b] 27) := by
  obtain ⟨h1, h2⟩ := tdiv_range a b hb ha ha2
  by_cases h : a.tmod b < 0
  · have HF := Lib.hid (floor_neg a b hb h)
    go_enter Try.func31, Try.ntmps31
    go_wp2
    go_ret
    exact ⟨ret_int HF.out, rfl⟩
  · have HF := Lib.hid (floor_pos a b hb h)
    go_enter Try.func31, Try.ntmps31
    go_wp2
    go_ret
    exact ⟨ret_int HF.out, rfl⟩

/-- rounded down, or 0 -/
def floR (n d : Int) : Int := if okR n d = true then n / d else 0
/-- rounded up, or 0 -/
def ceiR (n d : Int) : Int := if okR n d = true then -((-n) / d) else 0
theorem below_box2 {w w' : World} (h : Below w.heap.size w w') (o : Obj) : Below w.heap.size w (w'.alloc o) := h.trans ((below_box w' o).mono h.size)

set_option maxHeartbeats 800000 in
theorem spec_floorR (n d : Int) (w : World) (hn : -9223372036854775808 ≤ n) (hn2 : n ≤ 9223372036854775807) (hd : -9223372036854775808 ≤ d) (hd2 : d ≤ 9223372036854775807) :
    Calls Try.prog 17 #[.agg #[.int .i64 n, .int .i64 d]] w fun e w' => e = .returned (.int .i64 (floR n d)) ∧ Below w.heap.size w w' := by
  have hb := below_box w (.cells #[.int .i64 n, .int .i64 d] 27)
  cases h : okR n d with
  | false =>
    rw [show floR n d = 0 by unfold floR; rw [h]; rfl]
    have HO := Lib.hid h
    clear h
    go_enter Try.func17, Try.ntmps17
    go_wp2_with fail
    refine (spec_ok n d _ hn hn2 hd hd2).mono ?_
    rw [HO.out]
    rintro e w1 ⟨rfl, hb1⟩
    go_wp2_with fail
    go_ret
    exact ⟨rfl, hb.trans (hb1.mono hb.size)⟩
  | true =>
  have HV := Lib.hid (show floR n d = n / d by unfold floR; rw [h]; rfl)
  obtain ⟨h1, h2, h3, h4, _⟩ := (okR_iff _ _).1 h
  have HO := Lib.hid h
  clear h
  have hr := floor_range n d (by omega) (by omega) (by omega)
  go_enter Try.func17, Try.ntmps17
  go_wp2_with fail
  refine (spec_ok n d _ hn hn2 hd hd2).mono ?_
  rw [HO.out]
  rintro e w1 ⟨rfl, hb1⟩
  obtain ⟨c0, c1, hz⟩ := boxed hb1
  go_wp2_with fail
  refine (spec_floor n d _ (by omega) (by omega) (by omega) (by omega)).mono ?_
  rintro e w2 ⟨rfl, rfl⟩
  generalize n / d = x at *
  go_wp2_with fail
  go_ret
  exact ⟨ret_int HV.out.symm, hb.trans (hb1.mono hb.size)⟩

set_option maxHeartbeats 800000 in
theorem impl_floorR (n d : Int) (w : World) (hn : -9223372036854775808 ≤ n) (hn2 : n ≤ 9223372036854775807) (hd : -9223372036854775808 ≤ d) (hd2 : d ≤ 9223372036854775807) :
    Calls Try.prog 18 #[.agg #[.int .i64 n, .int .i64 d]] w fun e w' => e = .returned (.int .i64 (floR n d)) ∧ Below w.heap.size w w' := by
  have hb := below_box w (.cells #[.int .i64 n, .int .i64 d] 27)
  cases h : okR n d with
  | false =>
    rw [show floR n d = 0 by unfold floR; rw [h]; rfl]
    have HO := Lib.hid h
    clear h
    go_enter Try.func18, Try.ntmps18
    go_wp2_with fail
    refine (impl_ok n d _ hn hn2 hd hd2).mono ?_
    rw [HO.out]
    rintro e w1 ⟨rfl, hb1⟩
    go_wp2_with fail
    go_ret
    exact ⟨rfl, hb.trans (hb1.mono hb.size)⟩
  | true =>
  have HV := Lib.hid (show floR n d = n / d by unfold floR; rw [h]; rfl)
  obtain ⟨h1, h2, h3, h4, _⟩ := (okR_iff _ _).1 h
  have HO := Lib.hid h
  clear h
  have hr := floor_range n d (by omega) (by omega) (by omega)
  go_enter Try.func18, Try.ntmps18
  go_wp2_with fail
  refine (impl_ok n d _ hn hn2 hd hd2).mono ?_
  rw [HO.out]
  rintro e w1 ⟨rfl, hb1⟩
  obtain ⟨c0, c1, hz⟩ := boxed hb1
  go_wp2_with fail
  refine (whole n d _ (by omega) (by omega) (by omega) (by omega)).mono ?_
  rintro e w2 ⟨rfl, rfl⟩
  generalize n / d = x at *
  go_wp2_with fail
  go_ret
  exact ⟨ret_int HV.out.symm, hb.trans ((below_box2 hb1 _).mono hb.size)⟩

set_option maxHeartbeats 800000 in
theorem spec_ceilR (n d : Int) (w : World) (hn : -9223372036854775808 ≤ n) (hn2 : n ≤ 9223372036854775807) (hd : -9223372036854775808 ≤ d) (hd2 : d ≤ 9223372036854775807) :
    Calls Try.prog 19 #[.agg #[.int .i64 n, .int .i64 d]] w fun e w' => e = .returned (.int .i64 (ceiR n d)) ∧ Below w.heap.size w w' := by
  have hb := below_box w (.cells #[.int .i64 n, .int .i64 d] 27)
  cases h : okR n d with
  | false =>
    rw [show ceiR n d = 0 by unfold ceiR; rw [h]; rfl]
    have HO := Lib.hid h
    clear h
    go_enter Try.func19, Try.ntmps19
    go_wp2_with fail
    refine (spec_ok n d _ hn hn2 hd hd2).mono ?_
    rw [HO.out]
    rintro e w1 ⟨rfl, hb1⟩
    go_wp2_with fail
    go_ret
    exact ⟨rfl, hb.trans (hb1.mono hb.size)⟩
  | true =>
  have HV := Lib.hid (show ceiR n d = -((-n) / d) by unfold ceiR; rw [h]; rfl)
  obtain ⟨h1, h2, h3, h4, _⟩ := (okR_iff _ _).1 h
  have HO := Lib.hid h
  clear h
  have hr := floor_range (-n) d (by omega) (by omega) (by omega)
  go_enter Try.func19, Try.ntmps19
  go_wp2_with fail
  refine (spec_ok n d _ hn hn2 hd hd2).mono ?_
  rw [HO.out]
  rintro e w1 ⟨rfl, hb1⟩
  obtain ⟨c0, c1, hz⟩ := boxed hb1
  go_wp2_with fail
  refine (spec_floor (-n) d _ (by omega) (by omega) (by omega) (by omega)).mono ?_
  rintro e w2 ⟨rfl, rfl⟩
  generalize (-n) / d = x at *
  go_wp2_with fail
  go_ret
  exact ⟨ret_int HV.out.symm, hb.trans (hb1.mono hb.size)⟩

set_option maxHeartbeats 800000 in
theorem impl_ceilR (n d : Int) (w : World) (hn : -9223372036854775808 ≤ n) (hn2 : n ≤ 9223372036854775807) (hd : -9223372036854775808 ≤ d) (hd2 : d ≤ 9223372036854775807) :
    Calls Try.prog 20 #[.agg #[.int .i64 n, .int .i64 d]] w fun e w' => e = .returned (.int .i64 (ceiR n d)) ∧ Below w.heap.size w w' := by
  have hb := below_box w (.cells #[.int .i64 n, .int .i64 d] 27)
  cases h : okR n d with
  | false =>
    rw [show ceiR n d = 0 by unfold ceiR; rw [h]; rfl]
    have HO := Lib.hid h
    clear h
    go_enter Try.func20, Try.ntmps20
    go_wp2_with fail
    refine (impl_ok n d _ hn hn2 hd hd2).mono ?_
    rw [HO.out]
    rintro e w1 ⟨rfl, hb1⟩
    go_wp2_with fail
    go_ret
    exact ⟨rfl, hb.trans (hb1.mono hb.size)⟩
  | true =>
  have HV := Lib.hid (show ceiR n d = -((-n) / d) by unfold ceiR; rw [h]; rfl)
  obtain ⟨h1, h2, h3, h4, _⟩ := (okR_iff _ _).1 h
  have HO := Lib.hid h
  clear h
  have hr := floor_range (-n) d (by omega) (by omega) (by omega)
  go_enter Try.func20, Try.ntmps20
  go_wp2_with fail
  refine (impl_ok n d _ hn hn2 hd hd2).mono ?_
  rw [HO.out]
  rintro e w1 ⟨rfl, hb1⟩
  obtain ⟨c0, c1, hz⟩ := boxed hb1
  go_wp2_with fail
  refine (whole (-n) d _ (by omega) (by omega) (by omega) (by omega)).mono ?_
  rintro e w2 ⟨rfl, rfl⟩
  generalize (-n) / d = x at *
  go_wp2_with fail
  go_ret
  exact ⟨ret_int HV.out.symm, hb.trans ((below_box2 hb1 _).mono hb.size)⟩

set_option maxHeartbeats 800000 in
theorem law_floor (n d : Int) (wn : (Lit.int .i64 n).wf = true) (wd : (Lit.int .i64 d).wf = true) (w : World) :
    Calls Try.prog 6 #[.agg #[.int .i64 n, .int .i64 d]] w fun e w' => e = .returned (.bool true) ∧ Below w.heap.size w w' := by
  obtain ⟨hn, hn2⟩ := bounds_i64 wn
  obtain ⟨hd, hd2⟩ := bounds_i64 wd
  clear wn wd
  have hb := below_box w (.cells #[.int .i64 n, .int .i64 d] 25)
  go_enter Try.func6, Try.ntmps6
  go_wp2_with fail
  refine (to_ratio n d _).mono ?_
  rintro e w1 ⟨rfl, hb1⟩
  go_wp2_with fail
  refine (spec_floorR n d _ hn hn2 hd hd2).mono ?_
  rintro e w2 ⟨rfl, hb2⟩
  have hb12 := hb1.trans (hb2.mono hb1.size)
  obtain ⟨c0, c1, hz⟩ := boxed hb12
  go_wp2_with fail
  refine (to_ratio n d _).mono ?_
  rintro e w3 ⟨rfl, hb3⟩
  have hb13 := hb12.trans (hb3.mono hb12.size)
  go_wp2_with fail
  refine (impl_floorR n d _ hn hn2 hd hd2).mono ?_
  rintro e w4 ⟨rfl, hb4⟩
  have hb14 := hb13.trans (hb4.mono hb13.size)
  generalize floR n d = r
  go_wp2_with fail
  go_ret
  exact ⟨rfl, hb.trans (hb14.mono hb.size)⟩

set_option maxHeartbeats 800000 in
theorem law_ceil (n d : Int) (wn : (Lit.int .i64 n).wf = true) (wd : (Lit.int .i64 d).wf = true) (w : World) :
    Calls Try.prog 7 #[.agg #[.int .i64 n, .int .i64 d]] w fun e w' => e = .returned (.bool true) ∧ Below w.heap.size w w' := by
  obtain ⟨hn, hn2⟩ := bounds_i64 wn
  obtain ⟨hd, hd2⟩ := bounds_i64 wd
  clear wn wd
  have hb := below_box w (.cells #[.int .i64 n, .int .i64 d] 25)
  go_enter Try.func7, Try.ntmps7
  go_wp2_with fail
  refine (to_ratio n d _).mono ?_
  rintro e w1 ⟨rfl, hb1⟩
  go_wp2_with fail
  refine (spec_ceilR n d _ hn hn2 hd hd2).mono ?_
  rintro e w2 ⟨rfl, hb2⟩
  have hb12 := hb1.trans (hb2.mono hb1.size)
  obtain ⟨c0, c1, hz⟩ := boxed hb12
  go_wp2_with fail
  refine (to_ratio n d _).mono ?_
  rintro e w3 ⟨rfl, hb3⟩
  have hb13 := hb12.trans (hb3.mono hb12.size)
  go_wp2_with fail
  refine (impl_ceilR n d _ hn hn2 hd hd2).mono ?_
  rintro e w4 ⟨rfl, hb4⟩
  have hb14 := hb13.trans (hb4.mono hb13.size)
  generalize ceiR n d = r
  go_wp2_with fail
  go_ret
  exact ⟨rfl, hb.trans (hb14.mono hb.size)⟩
end Go.Proofs.Ytplangahbabloaa
