/- The contract of the model's RatioCmp over the translation. -/
import Derived.Test.YtplangahbabloaaFlo
namespace Go.Proofs.Ytplangahbabloaa
open Go.RowKit

/-- a valid fraction against another, or 0 -/
def cmpO (a b c d : Int) : Int := if okR a b = true ∧ okR c d = true then cmpR a b c d else 0
theorem cmpO_of {a b c d : Int} (h1 : okR a b = true) (h2 : okR c d = true) : cmpO a b c d = cmpR a b c d := if_pos ⟨h1, h2⟩
theorem cmpO_no1 {a b c d : Int} (h1 : okR a b = false) : cmpO a b c d = 0 := if_neg (by rw [h1]; simp)
theorem cmpO_no2 {a b c d : Int} (h1 : okR c d = false) : cmpO a b c d = 0 := if_neg (by rw [h1]; simp)

theorem boxed2 {w w1 : World} {a b c d : Value} {T U : TypeId} (hb : Below ((w.alloc (.cells #[a, b] T)).alloc (.cells #[c, d] U)).heap.size ((w.alloc (.cells #[a, b] T)).alloc (.cells #[c, d] U)) w1) :
    w1.cell? ⟨w.heap.size, 0, none⟩ = some a ∧ w1.cell? ⟨w.heap.size, 1, none⟩ = some b ∧ w1.cell? ⟨w.heap.size + 1, 0, none⟩ = some c ∧ w1.cell? ⟨w.heap.size + 1, 1, none⟩ = some d ∧ w.heap.size + 1 < w1.heap.size := by
  have h1 := boxed hb
  have h0 := boxed (w1 := w1) ((below_box (w.alloc (.cells #[a, b] T)) (.cells #[c, d] U)).trans (hb.mono (by simp)))
  simp at h1
  exact ⟨h0.1, h0.2.1, h1.1, h1.2.1, h1.2.2⟩

theorem rest_bounds (a b : Int) (hb : 0 < b) : 0 ≤ a - a / b * b ∧ a - a / b * b < b := by
  rw [rest_eq]
  exact ⟨Int.emod_nonneg a (by omega), Int.emod_lt_of_pos a hb⟩
theorem ne_b {a b : Int} (h : a ≠ b) : (a != b) = true := by simpa using h
theorem eq_b {a b : Int} (h : a ≠ b) : (a == b) = false := by simpa using h

/-- what the loop keeps: the comparison that is left, times the sign, is the one that was asked -/
def Left (R a b c d s : Int) : Prop := s * cmpR a b c d = R

theorem left_less {R x y u v s : Int} (h : Left R x y u v s) (e : cmpR x y u v = -1) : -s = R := by unfold Left at h; rw [e] at h; omega
theorem left_more {R x y u v s : Int} (h : Left R x y u v s) (e : cmpR x y u v = 1) : s = R := by unfold Left at h; rw [e] at h; omega
theorem left_rest {R x y u v s m n : Int} (h : Left R x y u v s) (e : cmpR m y n v = cmpR x y u v) : Left R m y n v s := by unfold Left at *; rw [e]; exact h
theorem left_zz {R y v s : Int} (h : Left R 0 y 0 v s) : 0 = R := by unfold Left at h; rw [cmpR_zz] at h; omega
theorem left_next {R m y n v s : Int} (h : Left R m y n v s) : Left R y m v n (-s) := by unfold Left at *; rw [cmpR_turn2, Int.neg_mul_neg]; exact h

set_option maxHeartbeats 4000000 in
theorem spec_cmp_loop (a b c d : Int) (w : World) (ha : -1000000000000000000 ≤ a) (ha2 : a ≤ 1000000000000000000) (hb : 1 ≤ b) (hb2 : b ≤ 1000000000000000000) (hc : -1000000000000000000 ≤ c) (hc2 : c ≤ 1000000000000000000) (hd : 1 ≤ d) (hd2 : d ≤ 1000000000000000000)
    (h1 : okR a b = true) (h2 : okR c d = true) :
    Calls Try.prog 15 #[.agg #[.int .i64 a, .int .i64 b], .agg #[.int .i64 c, .int .i64 d]] w fun e w' => e = .returned (.int .i64 (cmpR a b c d)) ∧ Below w.heap.size w w' := by
  have H1 := Lib.hid h1
  have H2 := Lib.hid h2
  clear h1 h2
  have hw : Below w.heap.size w ((w.alloc (.cells #[.int .i64 a, .int .i64 b] 27)).alloc (.cells #[.int .i64 c, .int .i64 d] 27)) := below_box2 (below_box _ _) _
  go_enter Try.func15, Try.ntmps15
  go_wp2_with fail
  refine (spec_ok a b _ (by omega) (by omega) (by omega) (by omega)).mono ?_
  rw [H1.out]
  rintro e w1 ⟨rfl, bl1⟩
  obtain ⟨p0, p1, p2, p3, hz1⟩ := boxed2 bl1
  go_wp2_with fail
  refine (spec_ok c d _ (by omega) (by omega) (by omega) (by omega)).mono ?_
  rw [H2.out]
  rintro e w2 ⟨rfl, bl2⟩
  have bl12 := bl1.trans (bl2.mono bl1.size)
  clear p0 p1 p2 p3
  obtain ⟨p0, p1, p2, p3, hz2⟩ := boxed2 bl12
  have hbw := hw.trans (bl12.mono hw.size)
  go_wp2_with fail
  clear p0 p1 p2 p3 bl1 bl2 bl12 hw hz1
  go_loop [5, 6, 7, 8, 9] (fun xa xb xc xd xs => ∃ x y u v s : Int, xa = .int .i64 x ∧ xb = .int .i64 y ∧ xc = .int .i64 u ∧ xd = .int .i64 v ∧ xs = .int .i64 s ∧ -1000000000000000000 ≤ x ∧ x ≤ 1000000000000000000 ∧ 1 ≤ y ∧ y ≤ 1000000000000000000 ∧ -1000000000000000000 ≤ u ∧ u ≤ 1000000000000000000 ∧ 1 ≤ v ∧ v ≤ 1000000000000000000 ∧ -1 ≤ s ∧ s ≤ 1 ∧ Left (cmpR a b c d) x y u v s) (fun _ xb _ _ _ => (intOf xb).toNat)
  case atStart => exact ⟨a, b, c, d, 1, rfl, rfl, rfl, rfl, rfl, by omega, by omega, by omega, by omega, by omega, by omega, by omega, by omega, by omega, by omega, by unfold Left; omega⟩
  case round =>
    obtain ⟨x, y, u, v, s, rfl, rfl, rfl, rfl, rfl, hx, hx2, hy, hy2, hu, hu2, hv, hv2, hs, hs2, hL⟩ := hrel
    have HL := Lib.hid hL
    clear hL ha ha2 hb hb2 hc hc2 hd hd2 H1 H2
    obtain ⟨f1, f2⟩ := floor_range x y (by omega) hx hx2
    obtain ⟨f3, f4⟩ := floor_range u v (by omega) hu hu2
    obtain ⟨r1, r2⟩ := rest_bounds x y (by omega)
    obtain ⟨r3, r4⟩ := rest_bounds u v (by omega)
    have HP := Lib.hid (⟨cmpR_less x y u v (by omega) (by omega), cmpR_more x y u v (by omega) (by omega)⟩ : _ ∧ _)
    go_wp2_with fail
    refine (spec_floor x y _ (by omega) (by omega) (by omega) (by omega)).mono ?_
    rintro e w3 ⟨rfl, rfl⟩
    generalize x / y = p at *
    go_wp2_with fail
    refine (spec_floor u v _ (by omega) (by omega) (by omega) (by omega)).mono ?_
    rintro e w3 ⟨rfl, rfl⟩
    generalize u / v = q at *
    by_cases hpq : p < q
    · have hn := ne_b (show p ≠ q by omega)
      go_wp2_with fail
      go_ret
      exact ⟨ret_int (left_less HL.out (HP.out.1 hpq)), hbw⟩
    · by_cases hqp : q < p
      · have hn := ne_b (show p ≠ q by omega)
        go_wp2_with fail
        go_ret
        exact ⟨ret_int (left_more HL.out (HP.out.2 hqp)), hbw⟩
      · obtain rfl : p = q := by omega
        clear hpq hqp
        have HR := Lib.hid (left_rest HL.out (cmpR_rest x y u v p))
        clear HL HP
        generalize hg : p * y = py at *
        generalize hh : p * v = pv at *
        by_cases hm : x - py = 0
        · by_cases hn : u - pv = 0
          · rw [hm, hn] at HR
            go_wp2_with fail
            go_ret
            exact ⟨ret_int (left_zz HR.out), hbw⟩
          · have hn2 := eq_b hn
            rw [hm] at HR
            go_wp2_with fail
            go_ret
            exact ⟨ret_int (left_less HR.out (cmpR_z _ _ _ (by omega) (by omega))), hbw⟩
        · have hm2 := eq_b hm
          by_cases hn : u - pv = 0
          · rw [hn] at HR
            go_wp2_with fail
            go_ret
            exact ⟨ret_int (left_more HR.out (cmpR_z2 _ _ _ (by omega) (by omega))), hbw⟩
          · have hn2 := eq_b hn
            go_wp2_with fail
            go_round
            case rel => exact ⟨y, x - py, v, u - pv, -s, rfl, rfl, rfl, rfl, rfl, by omega, by omega, by omega, by omega, by omega, by omega, by omega, by omega, by omega, by omega, left_next HR.out⟩
            case measure => simp [intOf]; omega
end Go.Proofs.Ytplangahbabloaa
