/- The walk of the law FnThrough. -/
import Derived.Test.YtkodoedkdgldnaaThr
import Derived.Test.YtkodoedkdgldnaaSid
import Derived.Test.YtkodoedkdgldnaaMkh
namespace Go.Proofs.Ytkodoedkdgldnaa
open Go.RowKit

theorem whole_small {a b : Int} (ha : -1000 ≤ a) (ha2 : a ≤ 1000) (hb : -1000 ≤ b) (hb2 : b ≤ 1000) : okS a b 1 = true ∧ wholeS a b 1 = true := by
  have h : okS a b 1 = true := by
    refine (okS_iff _ _ _).2 ⟨by omega, by omega, by omega, by omega, by omega, by omega, ?_⟩
    unfold gS
    simp
  exact ⟨h, by unfold wholeS; rw [h]; rfl⟩
theorem ansH_zero : ansH 0 0 0 = zeroS := ansH_no (hasH_no ⟨rfl, rfl⟩)
theorem thr_same {a b : Int} (ha : -1000 ≤ a) (ha2 : a ≤ 1000) (hb : -1000 ≤ b) (hb2 : b ≤ 1000) : thrH a b 1 a b 1 = zeroS := by
  obtain ⟨_, h⟩ := whole_small ha ha2 hb hb2
  rw [show thrH a b 1 a b 1 = _ from if_pos ⟨h, h⟩, Int.sub_self, Int.sub_self, Int.zero_mul, Int.zero_mul, Int.neg_zero, Int.sub_self]
  exact ansH_zero
theorem scale_zero {g v : Int} (hg : 1 ≤ g) (h : v * g = 0) : v = 0 := by
  rcases Int.mul_eq_zero.1 h with k | k
  · exact k
  · omega
theorem scale_neg {g v : Int} (hg : 1 ≤ g) (h : v * g < 0) : v < 0 := by
  rcases Int.lt_or_le v 0 with k | k
  · exact k
  · have := Int.mul_nonneg k (by omega : 0 ≤ g); omega
/-- the half plane through two different whole spots -/
theorem thr_facts {a b x y : Int} (ha : -40 ≤ a) (ha2 : a ≤ 39) (hb : -40 ≤ b) (hb2 : b ≤ 39) (hx : -40 ≤ x) (hx2 : x ≤ 39) (hy : -40 ≤ y) (hy2 : y ≤ 39) (hne : ¬ (a = x ∧ b = y)) :
    ∃ A B C : Int, thrH a b 1 x y 1 = spotS A B C ∧ okH A B C = true ∧ sideV A B C a b 1 = 0 ∧ sideV A B C x y 1 = 0 ∧ sideV A B C (a + (b - y)) (b + (x - a)) 1 = -1 := by
  obtain ⟨_, h⟩ := whole_small (a := a) (b := b) (by omega) (by omega) (by omega) (by omega)
  obtain ⟨_, k⟩ := whole_small (a := x) (b := y) (by omega) (by omega) (by omega) (by omega)
  obtain ⟨⟨m0, m1⟩, n0, n1⟩ := thr_in (a := a) (b := b) (x := x) (y := y) (by omega) (by omega) (by omega) (by omega) (by omega) (by omega) (by omega) (by omega)
  obtain ⟨A, B, C, g, hA, hok, hg, ea, eb, ec⟩ := has_half (a := y - b) (b := -(x - a)) (c := (y - b) * a - (x - a) * b) (by omega) (by omega) (by omega) (by omega) (by omega) (by omega) (by omega)
  refine ⟨A, B, C, by rw [show thrH a b 1 x y 1 = _ from if_pos ⟨h, k⟩]; exact hA, hok, ?_, ?_, ?_⟩
  · have key : (A * a + B * b - C * 1) * g = 0 := by
      have e : (A * a + B * b - C * 1) * g = (A * g) * a + (B * g) * b - C * g := by
        rw [Int.mul_one, Int.sub_mul, Int.add_mul, Int.mul_right_comm A a g, Int.mul_right_comm B b g]
      rw [e, ← ea, ← eb, ← ec, Int.neg_mul]
      omega
    exact sideV_eq (by have := scale_zero hg key; omega)
  · have key : (A * x + B * y - C * 1) * g = 0 := by
      have e : (A * x + B * y - C * 1) * g = (A * g) * x + (B * g) * y - C * g := by
        rw [Int.mul_one, Int.sub_mul, Int.add_mul, Int.mul_right_comm A x g, Int.mul_right_comm B y g]
      have f1 : (y - b) * x = (y - b) * (x - a) + (y - b) * a := by rw [← Int.mul_add]; congr 1; omega
      have f2 : (x - a) * y = (y - b) * (x - a) + (x - a) * b := by rw [Int.mul_comm (y - b) (x - a), ← Int.mul_add]; congr 1; omega
      rw [e, ← ea, ← eb, ← ec, Int.neg_mul, f1, f2]
      omega
    exact sideV_eq (by have := scale_zero hg key; omega)
  · have key : (A * (a + (b - y)) + B * (b + (x - a)) - C * 1) * g < 0 := by
      have e : (A * (a + (b - y)) + B * (b + (x - a)) - C * 1) * g = (A * g) * (a + (b - y)) + (B * g) * (b + (x - a)) - C * g := by
        rw [Int.mul_one, Int.sub_mul, Int.add_mul, Int.mul_right_comm A _ g, Int.mul_right_comm B _ g]
      have f1 : (y - b) * (a + (b - y)) = (y - b) * a - (y - b) * (y - b) := by rw [← Int.mul_sub]; congr 1; omega
      have f2 : (x - a) * (b + (x - a)) = (x - a) * b + (x - a) * (x - a) := by rw [← Int.mul_add]
      have s : 0 < (y - b) * (y - b) + (x - a) * (x - a) := by
        have s1 : 0 ≤ (y - b) * (y - b) := by
          rcases Int.lt_or_le (y - b) 0 with q | q
          · exact Int.le_of_lt (Int.mul_pos_of_neg_of_neg q q)
          · exact Int.mul_nonneg q q
        have s2 : 0 ≤ (x - a) * (x - a) := by
          rcases Int.lt_or_le (x - a) 0 with q | q
          · exact Int.le_of_lt (Int.mul_pos_of_neg_of_neg q q)
          · exact Int.mul_nonneg q q
        have s3 : (y - b) * (y - b) ≠ 0 ∨ (x - a) * (x - a) ≠ 0 := by
          by_cases q : y - b = 0
          · right; intro r; rcases Int.mul_eq_zero.1 r with r | r <;> omega
          · left; intro r; rcases Int.mul_eq_zero.1 r with r | r <;> omega
        omega
      rw [e, ← ea, ← eb, ← ec, Int.neg_mul, f1, f2]
      omega
    exact sideV_lt (by have := scale_neg hg key; omega)
theorem side_call {A B C x y d r : Int} (h : okH A B C = true) (k : okS x y d = true) (e : sideV A B C x y d = r) (W : World) :
    Calls Try.prog 20 #[.agg #[.int .i64 A, .int .i64 B, .int .i64 C], .agg #[.int .i64 x, .int .i64 y, .int .i64 d]] W fun e w' => e = .returned (.int .i64 r) ∧ Below W.heap.size W w' := by
  obtain ⟨a1, a2, b1, b2, _, c1, c2, _⟩ := (okH_iff _ _ _).1 h
  obtain ⟨d1, d2, x1, x2, y1, y2, _⟩ := (okS_iff _ _ _).1 k
  have := impl_side A B C x y d W (by omega) (by omega) (by omega) (by omega) (by omega) (by omega) (by omega) (by omega) (by omega) (by omega) (by omega) (by omega)
  rw [show sideH A B C x y d = sideV A B C x y d from if_pos ⟨h, k⟩, e] at this
  exact this

set_option maxRecDepth 5000 in
set_option maxHeartbeats 6400000 in
theorem law_through (a0 : Option Addr) (len cap : Nat) (w : World) (hm : len ≤ maxLen) (hB : BytesAt w a0 len) :
    Calls Try.prog 4 #[.slice a0 len cap] w fun e w' => e = .returned (.bool true) ∧ Below w.heap.size w w' := by
  have HB := Lib.hid hB
  clear hB
  unfold maxLen at hm
  by_cases hb : (1048576 : Int) < (len : Int)
  · go_enter Try.func4, Try.ntmps4
    go_wp2_with fail
    go_ret
    exact ⟨rfl, Below.refl _ _⟩
  · have hl : len ≤ 1048576 := by omega
    go_enter Try.func4, Try.ntmps4
    go_wp2_with fail
    refine (make_whole w a0 len cap 1 (by omega) hl HB.out).mono ?_
    rintro e w1 ⟨a, b, ⟨a1, a2, b1, b2⟩, rfl, hb1⟩
    have ha1 := below_bx2 hb1 (.cells #[.int .i64 a, .int .i64 b, .int .i64 1] 27)
    have H0 := has3_new w1 (.int .i64 a) (.int .i64 b) (.int .i64 1) 27
    go_wp2_with fail
    refine (make_whole _ a0 len cap 20 (by omega) hl (HB.out.below ha1)).mono ?_
    rintro e w2 ⟨x, y, ⟨x1, x2, y1, y2⟩, rfl, hb2⟩
    have G1 := has3_to hb2 H0
    have hc2 := below_to ha1 hb2
    clear H0 ha1 hb1 hb2
    have HT := Lib.hid (fun W => impl_thr a b 1 x y 1 W (by omega) (by omega) (by omega) (by omega) (by omega) (by omega) (by omega) (by omega) (by omega) (by omega) (by omega) (by omega))
    obtain ⟨k1, k2⟩ := whole_small (a := a) (b := b) (by omega) (by omega) (by omega) (by omega)
    obtain ⟨l1, _⟩ := whole_small (a := x) (b := y) (by omega) (by omega) (by omega) (by omega)
    by_cases hne : a = x ∧ b = y
    · obtain ⟨rfl, rfl⟩ := hne
      rw [thr_same (by omega) (by omega) (by omega) (by omega)] at HT
      unfold zeroS at HT
      have HW := Lib.hid (fun W => impl_whole a b 1 W (by omega) (by omega) (by omega) (by omega) (by omega) (by omega))
      rw [k2] at HW
      clear k1 k2 l1
      obtain ⟨Gc0, Gc1, Gc2, _, _, _⟩ := id G1
      have Gz := has3_lt G1
      go_wp2_with fail
      clear Gc0 Gc1 Gc2 Gz
      refine (HT.out _).mono ?_
      rintro e w3 ⟨rfl, bl⟩
      have Gm1 := has3_to (below_to (below_box w2 (.cells #[.int .i64 a, .int .i64 b, .int .i64 1] 27)) bl) G1
      have Tm1 := has3_to bl (has3_new w2 (.int .i64 a) (.int .i64 b) (.int .i64 1) 27)
      have ha1 := below_to (below_bx2 hc2 (.cells #[.int .i64 a, .int .i64 b, .int .i64 1] 27)) bl
      clear bl G1 hc2
      obtain ⟨Gc0, Gc1, Gc2, _, _, _⟩ := id Gm1
      have Gz := has3_lt Gm1
      obtain ⟨Tc0, Tc1, Tc2, _, _, _⟩ := id Tm1
      have Tz := has3_lt Tm1
      go_wp2_with fail
      clear Gc0 Gc1 Gc2 Gz Tc0 Tc1 Tc2 Tz
      refine (HW.out _).mono ?_
      rintro e w4 ⟨rfl, bl⟩
      have Gm2 := has3_to (below_to (below_box w3 (.cells #[.int .i64 0, .int .i64 0, .int .i64 0] 24)) bl) Gm1
      have Tm2 := has3_to (below_to (below_box w3 (.cells #[.int .i64 0, .int .i64 0, .int .i64 0] 24)) bl) Tm1
      have Km2 := has3_to bl (has3_new w3 (.int .i64 0) (.int .i64 0) (.int .i64 0) 24)
      have ha2 := below_to (below_bx2 ha1 (.cells #[.int .i64 0, .int .i64 0, .int .i64 0] 24)) bl
      clear bl Gm1 Tm1 ha1
      go_wp2_with fail
      go_ret
      exact ⟨rfl, ha2⟩
    · obtain ⟨A, B, C, hA, hok, s1, s2, s3⟩ := thr_facts a1 a2 b1 b2 x1 x2 y1 y2 hne
      rw [hA] at HT
      unfold spotS at HT
      obtain ⟨l3, _⟩ := whole_small (a := a + (b - y)) (b := b + (x - a)) (by omega) (by omega) (by omega) (by omega)
      have HF := Lib.hid (fun W => impl_shift a b 1 (b - y) (x - a) W (by omega) (by omega) (by omega) (by omega) (by omega) (by omega) (by omega) (by omega) (by omega) (by omega))
      rw [show shiftS a b 1 (b - y) (x - a) = _ from if_pos ⟨k1, by omega, by omega, by omega, by omega⟩, Int.mul_one, Int.mul_one, ans_low l3] at HF
      unfold spotS at HF
      have S1 := Lib.hid (side_call hok k1 s1)
      have S2 := Lib.hid (side_call hok l1 s2)
      have S3 := Lib.hid (side_call hok l3 s3)
      clear k1 k2 l1 hA hok s1 s2 s3 l3
      generalize a + (b - y) = Lx at *
      generalize b + (x - a) = Ly at *
      by_cases hax : a = x
      · subst hax
        have hz : (b == y) = false := by simp; omega
        rw [Int.sub_self] at HF
        clear hne
        obtain ⟨Gc0, Gc1, Gc2, _, _, _⟩ := id G1
        have Gz := has3_lt G1
        go_wp2_with fail
        clear Gc0 Gc1 Gc2 Gz
        refine (HT.out _).mono ?_
        rintro e w3 ⟨rfl, bl⟩
        have Gm1 := has3_to (below_to (below_box w2 (.cells #[.int .i64 a, .int .i64 y, .int .i64 1] 27)) bl) G1
        have Tm1 := has3_to bl (has3_new w2 (.int .i64 a) (.int .i64 y) (.int .i64 1) 27)
        have ha1 := below_to (below_bx2 hc2 (.cells #[.int .i64 a, .int .i64 y, .int .i64 1] 27)) bl
        clear bl G1 hc2
        obtain ⟨Gc0, Gc1, Gc2, _, _, _⟩ := id Gm1
        have Gz := has3_lt Gm1
        obtain ⟨Tc0, Tc1, Tc2, _, _, _⟩ := id Tm1
        have Tz := has3_lt Tm1
        go_wp2_with fail
        clear Gc0 Gc1 Gc2 Gz Tc0 Tc1 Tc2 Tz
        refine (HF.out _).mono ?_
        rintro e w4 ⟨rfl, bl⟩
        have Gm2 := has3_to (below_to (below_box w3 (.cells #[.int .i64 A, .int .i64 B, .int .i64 C] 24)) bl) Gm1
        have Tm2 := has3_to (below_to (below_box w3 (.cells #[.int .i64 A, .int .i64 B, .int .i64 C] 24)) bl) Tm1
        have Km2 := has3_to bl (has3_new w3 (.int .i64 A) (.int .i64 B) (.int .i64 C) 24)
        have ha2 := below_to (below_bx2 ha1 (.cells #[.int .i64 A, .int .i64 B, .int .i64 C] 24)) bl
        clear bl Gm1 Tm1 ha1
        obtain ⟨Gc0, Gc1, Gc2, _, _, _⟩ := id Gm2
        have Gz := has3_lt Gm2
        obtain ⟨Kc0, Kc1, Kc2, _, _, _⟩ := id Km2
        have Kz := has3_lt Km2
        go_wp2_with fail
        clear Gc0 Gc1 Gc2 Gz Kc0 Kc1 Kc2 Kz
        refine (S1.out _).mono ?_
        rintro e w5 ⟨rfl, bl⟩
        have Gm3 := has3_to (below_to (below_box w4 (.cells #[.int .i64 Lx, .int .i64 Ly, .int .i64 1] 27)) bl) Gm2
        have Tm3 := has3_to (below_to (below_box w4 (.cells #[.int .i64 Lx, .int .i64 Ly, .int .i64 1] 27)) bl) Tm2
        have Km3 := has3_to (below_to (below_box w4 (.cells #[.int .i64 Lx, .int .i64 Ly, .int .i64 1] 27)) bl) Km2
        have Lm3 := has3_to bl (has3_new w4 (.int .i64 Lx) (.int .i64 Ly) (.int .i64 1) 27)
        have ha3 := below_to (below_bx2 ha2 (.cells #[.int .i64 Lx, .int .i64 Ly, .int .i64 1] 27)) bl
        clear bl Gm2 Tm2 Km2 ha2
        obtain ⟨Tc0, Tc1, Tc2, _, _, _⟩ := id Tm3
        have Tz := has3_lt Tm3
        obtain ⟨Kc0, Kc1, Kc2, _, _, _⟩ := id Km3
        have Kz := has3_lt Km3
        go_wp2_with fail
        clear Tc0 Tc1 Tc2 Tz Kc0 Kc1 Kc2 Kz
        refine (S2.out _).mono ?_
        rintro e w6 ⟨rfl, bl⟩
        have Gm4 := has3_to bl Gm3
        have Tm4 := has3_to bl Tm3
        have Km4 := has3_to bl Km3
        have Lm4 := has3_to bl Lm3
        have ha4 := below_to ha3 bl
        clear bl Gm3 Tm3 Km3 Lm3 ha3
        obtain ⟨Lc0, Lc1, Lc2, _, _, _⟩ := id Lm4
        have Lz := has3_lt Lm4
        obtain ⟨Kc0, Kc1, Kc2, _, _, _⟩ := id Km4
        have Kz := has3_lt Km4
        go_wp2_with fail
        clear Lc0 Lc1 Lc2 Lz Kc0 Kc1 Kc2 Kz
        refine (S3.out _).mono ?_
        rintro e w7 ⟨rfl, bl⟩
        have Gm5 := has3_to bl Gm4
        have Tm5 := has3_to bl Tm4
        have Km5 := has3_to bl Km4
        have Lm5 := has3_to bl Lm4
        have ha5 := below_to ha4 bl
        clear bl Gm4 Tm4 Km4 Lm4 ha4
        go_wp2_with fail
        go_ret
        exact ⟨rfl, ha5⟩
      · have hz : (a == x) = false := by simpa using hax
        clear hne hax
        obtain ⟨Gc0, Gc1, Gc2, _, _, _⟩ := id G1
        have Gz := has3_lt G1
        go_wp2_with fail
        clear Gc0 Gc1 Gc2 Gz
        refine (HT.out _).mono ?_
        rintro e w3 ⟨rfl, bl⟩
        have Gm1 := has3_to (below_to (below_box w2 (.cells #[.int .i64 x, .int .i64 y, .int .i64 1] 27)) bl) G1
        have Tm1 := has3_to bl (has3_new w2 (.int .i64 x) (.int .i64 y) (.int .i64 1) 27)
        have ha1 := below_to (below_bx2 hc2 (.cells #[.int .i64 x, .int .i64 y, .int .i64 1] 27)) bl
        clear bl G1 hc2
        obtain ⟨Gc0, Gc1, Gc2, _, _, _⟩ := id Gm1
        have Gz := has3_lt Gm1
        obtain ⟨Tc0, Tc1, Tc2, _, _, _⟩ := id Tm1
        have Tz := has3_lt Tm1
        go_wp2_with fail
        clear Gc0 Gc1 Gc2 Gz Tc0 Tc1 Tc2 Tz
        refine (HF.out _).mono ?_
        rintro e w4 ⟨rfl, bl⟩
        have Gm2 := has3_to (below_to (below_box w3 (.cells #[.int .i64 A, .int .i64 B, .int .i64 C] 24)) bl) Gm1
        have Tm2 := has3_to (below_to (below_box w3 (.cells #[.int .i64 A, .int .i64 B, .int .i64 C] 24)) bl) Tm1
        have Km2 := has3_to bl (has3_new w3 (.int .i64 A) (.int .i64 B) (.int .i64 C) 24)
        have ha2 := below_to (below_bx2 ha1 (.cells #[.int .i64 A, .int .i64 B, .int .i64 C] 24)) bl
        clear bl Gm1 Tm1 ha1
        obtain ⟨Gc0, Gc1, Gc2, _, _, _⟩ := id Gm2
        have Gz := has3_lt Gm2
        obtain ⟨Kc0, Kc1, Kc2, _, _, _⟩ := id Km2
        have Kz := has3_lt Km2
        go_wp2_with fail
        clear Gc0 Gc1 Gc2 Gz Kc0 Kc1 Kc2 Kz
        refine (S1.out _).mono ?_
        rintro e w5 ⟨rfl, bl⟩
        have Gm3 := has3_to (below_to (below_box w4 (.cells #[.int .i64 Lx, .int .i64 Ly, .int .i64 1] 27)) bl) Gm2
        have Tm3 := has3_to (below_to (below_box w4 (.cells #[.int .i64 Lx, .int .i64 Ly, .int .i64 1] 27)) bl) Tm2
        have Km3 := has3_to (below_to (below_box w4 (.cells #[.int .i64 Lx, .int .i64 Ly, .int .i64 1] 27)) bl) Km2
        have Lm3 := has3_to bl (has3_new w4 (.int .i64 Lx) (.int .i64 Ly) (.int .i64 1) 27)
        have ha3 := below_to (below_bx2 ha2 (.cells #[.int .i64 Lx, .int .i64 Ly, .int .i64 1] 27)) bl
        clear bl Gm2 Tm2 Km2 ha2
        obtain ⟨Tc0, Tc1, Tc2, _, _, _⟩ := id Tm3
        have Tz := has3_lt Tm3
        obtain ⟨Kc0, Kc1, Kc2, _, _, _⟩ := id Km3
        have Kz := has3_lt Km3
        go_wp2_with fail
        clear Tc0 Tc1 Tc2 Tz Kc0 Kc1 Kc2 Kz
        refine (S2.out _).mono ?_
        rintro e w6 ⟨rfl, bl⟩
        have Gm4 := has3_to bl Gm3
        have Tm4 := has3_to bl Tm3
        have Km4 := has3_to bl Km3
        have Lm4 := has3_to bl Lm3
        have ha4 := below_to ha3 bl
        clear bl Gm3 Tm3 Km3 Lm3 ha3
        obtain ⟨Lc0, Lc1, Lc2, _, _, _⟩ := id Lm4
        have Lz := has3_lt Lm4
        obtain ⟨Kc0, Kc1, Kc2, _, _, _⟩ := id Km4
        have Kz := has3_lt Km4
        go_wp2_with fail
        clear Lc0 Lc1 Lc2 Lz Kc0 Kc1 Kc2 Kz
        refine (S3.out _).mono ?_
        rintro e w7 ⟨rfl, bl⟩
        have Gm5 := has3_to bl Gm4
        have Tm5 := has3_to bl Tm4
        have Km5 := has3_to bl Km4
        have Lm5 := has3_to bl Lm4
        have ha5 := below_to ha4 bl
        clear bl Gm4 Tm4 Km4 Lm4 ha4
        go_wp2_with fail
        go_ret
        exact ⟨rfl, ha5⟩
end Go.Proofs.Ytkodoedkdgldnaa
