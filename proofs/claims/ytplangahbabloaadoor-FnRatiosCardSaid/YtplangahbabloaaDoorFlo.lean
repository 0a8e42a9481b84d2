/- The contracts of the functions that round, over the translation, and the walks of their laws. -/
import Derived.Test.YtplangahbabloaaDoorOk
namespace Go.Proofs.YtplangahbabloaaDoor
open Go.RowKit

theorem tdiv_range (a b : Int) (hb : 0 < b) (ha : -1000000000000000000 ≤ a) (ha2 : a ≤ 1000000000000000000) : -1000000000000000000 ≤ a.tdiv b ∧ a.tdiv b ≤ 1000000000000000000 := by
  have h := floor_range a b hb ha ha2
  by_cases h1 : a.tmod b < 0
  · have h2 := floor_neg a b hb h1
    have h3 : a / b < 1000000000000000000 := by
      apply Int.ediv_lt_of_lt_mul hb
      have h4 : a < 0 := by
        rcases Int.lt_or_le a 0 with h3 | h3
        · exact h3
        · have := Int.tmod_nonneg b h3; omega
      have : 0 ≤ 1000000000000000000 * b := Int.mul_nonneg (by omega) (by omega)
      omega
    omega
  · rw [floor_pos a b hb h1]; exact h

theorem whole (a b : Int) (w : World) (hb : 0 < b) (hb2 : b ≤ 1000000000000000000) (ha : -1000000000000000000 ≤ a) (ha2 : a ≤ 1000000000000000000) :
    Calls Tryd.prog 23 #[.agg #[.int .i64 a, .int .i64 b]] w fun e w' => e = .returned (.int .i64 (a / b)) ∧ w' = w.alloc (.cells #[.int .i64 a, .int .i64 b] 24) := by
  obtain ⟨h1, h2⟩ := tdiv_range a b hb ha ha2
  by_cases h : a.tmod b < 0
  · have HF := Lib.hid (floor_neg a b hb h)
    go_enter Tryd.func23, Tryd.ntmps23
    go_wp2
    go_ret
    exact ⟨ret_int HF.out, rfl⟩
  · have HF := Lib.hid (floor_pos a b hb h)
    go_enter Tryd.func23, Tryd.ntmps23
    go_wp2
    go_ret
    exact ⟨ret_int HF.out, rfl⟩

/-- rounded down, or 0 -/
def floR (n d : Int) : Int := if okR n d = true then n / d else 0
/-- rounded up, or 0 -/
def ceiR (n d : Int) : Int := if okR n d = true then -((-n) / d) else 0
theorem below_box2 {w w' : World} (h : Below w.heap.size w w') (o : Obj) : Below w.heap.size w (w'.alloc o) := h.trans ((below_box w' o).mono h.size)

set_option maxHeartbeats 800000 in
theorem impl_floorR (n d : Int) (w : World) (hn : -9223372036854775808 ≤ n) (hn2 : n ≤ 9223372036854775807) (hd : -9223372036854775808 ≤ d) (hd2 : d ≤ 9223372036854775807) :
    Calls Tryd.prog 11 #[.agg #[.int .i64 n, .int .i64 d]] w fun e w' => e = .returned (.int .i64 (floR n d)) ∧ Below w.heap.size w w' := by
  have hb := below_box w (.cells #[.int .i64 n, .int .i64 d] 24)
  cases h : okR n d with
  | false =>
    rw [show floR n d = 0 by unfold floR; rw [h]; rfl]
    have HO := Lib.hid h
    clear h
    go_enter Tryd.func11, Tryd.ntmps11
    go_wp2_with fail
    refine (impl_ok n d _ hn hn2 hd hd2).mono ?_
    rw [HO.out]
    rintro e w1 ⟨rfl, hb1⟩
    go_wp2_with fail
    go_ret
    exact ⟨rfl, hb.trans (hb1.mono hb.size)⟩
  | true =>
  have HV := Lib.hid (show floR n d = n / d by unfold floR; rw [h]; rfl)
  obtain ⟨h1, h2, h3, h4, _⟩ := (okR_iff _ _).1 h
  have HO := Lib.hid h
  clear h
  have hr := floor_range n d (by omega) (by omega) (by omega)
  go_enter Tryd.func11, Tryd.ntmps11
  go_wp2_with fail
  refine (impl_ok n d _ hn hn2 hd hd2).mono ?_
  rw [HO.out]
  rintro e w1 ⟨rfl, hb1⟩
  obtain ⟨c0, c1, hz⟩ := boxed hb1
  go_wp2_with fail
  refine (whole n d _ (by omega) (by omega) (by omega) (by omega)).mono ?_
  rintro e w2 ⟨rfl, rfl⟩
  generalize n / d = x at *
  go_wp2_with fail
  go_ret
  exact ⟨ret_int HV.out.symm, hb.trans ((below_box2 hb1 _).mono hb.size)⟩

set_option maxHeartbeats 800000 in
theorem impl_ceilR (n d : Int) (w : World) (hn : -9223372036854775808 ≤ n) (hn2 : n ≤ 9223372036854775807) (hd : -9223372036854775808 ≤ d) (hd2 : d ≤ 9223372036854775807) :
    Calls Tryd.prog 12 #[.agg #[.int .i64 n, .int .i64 d]] w fun e w' => e = .returned (.int .i64 (ceiR n d)) ∧ Below w.heap.size w w' := by
  have hb := below_box w (.cells #[.int .i64 n, .int .i64 d] 24)
  cases h : okR n d with
  | false =>
    rw [show ceiR n d = 0 by unfold ceiR; rw [h]; rfl]
    have HO := Lib.hid h
    clear h
    go_enter Tryd.func12, Tryd.ntmps12
    go_wp2_with fail
    refine (impl_ok n d _ hn hn2 hd hd2).mono ?_
    rw [HO.out]
    rintro e w1 ⟨rfl, hb1⟩
    go_wp2_with fail
    go_ret
    exact ⟨rfl, hb.trans (hb1.mono hb.size)⟩
  | true =>
  have HV := Lib.hid (show ceiR n d = -((-n) / d) by unfold ceiR; rw [h]; rfl)
  obtain ⟨h1, h2, h3, h4, _⟩ := (okR_iff _ _).1 h
  have HO := Lib.hid h
  clear h
  have hr := floor_range (-n) d (by omega) (by omega) (by omega)
  go_enter Tryd.func12, Tryd.ntmps12
  go_wp2_with fail
  refine (impl_ok n d _ hn hn2 hd hd2).mono ?_
  rw [HO.out]
  rintro e w1 ⟨rfl, hb1⟩
  obtain ⟨c0, c1, hz⟩ := boxed hb1
  go_wp2_with fail
  refine (whole (-n) d _ (by omega) (by omega) (by omega) (by omega)).mono ?_
  rintro e w2 ⟨rfl, rfl⟩
  generalize (-n) / d = x at *
  go_wp2_with fail
  go_ret
  exact ⟨ret_int HV.out.symm, hb.trans ((below_box2 hb1 _).mono hb.size)⟩

end Go.Proofs.YtplangahbabloaaDoor
