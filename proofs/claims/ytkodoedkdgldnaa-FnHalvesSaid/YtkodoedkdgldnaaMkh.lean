/- The contracts of the laws' makers of half planes and of whole spots, over the translation. -/
import Derived.Test.YtkodoedkdgldnaaMk
import Derived.Test.YtkodoedkdgldnaaHof
namespace Go.Proofs.Ytkodoedkdgldnaa
open Go.RowKit

/-- divided by what divides all three, the numbers are in lowest terms -/
theorem red_lowH {x y d X Y D : Int} (hg : 1 ≤ gS x y d) (hx : x = X * (gS x y d : Int)) (hy : y = Y * (gS x y d : Int)) (hD : d = D * (gS x y d : Int)) : gS X Y D = 1 := by
  refine gS_one fun k k1 k2 k3 => ?_
  have key : ∀ u U : Int, u = U * (gS x y d : Int) → (k : Int) ∣ U → ((k : Int) * (gS x y d : Int)) ∣ u := by
    rintro u U hu ⟨t, rfl⟩
    exact ⟨t, by rw [hu, Int.mul_assoc, Int.mul_assoc, Int.mul_comm t]⟩
  have h := dvd_gS (key x X hx k1) (key y Y hy k2) (key d D hD k3)
  generalize gS x y d = g at *
  have h' : k * g ∣ 1 * g := by
    rw [Nat.one_mul]
    exact Int.natCast_dvd_natCast.1 (by simpa using h)
  exact Nat.dvd_one.1 (Nat.dvd_of_mul_dvd_mul_right (by omega) h')
theorem div_in {x X g M : Int} (hg : 1 ≤ g) (h : x = X * g) (h1 : -M ≤ x) (h2 : x ≤ M) : -M ≤ X ∧ X ≤ M := by
  rcases Int.lt_or_le X 0 with k | k
  · have : X * g ≤ X * 1 := Int.mul_le_mul_of_nonpos_left (by omega) hg
    omega
  · have : X * 1 ≤ X * g := Int.mul_le_mul_of_nonneg_left hg k
    omega
/-- numbers within the limits that are not both 0 give a valid half plane -/
theorem has_half {a b c : Int} (h0 : a ≠ 0 ∨ b ≠ 0) (ha : -50000 ≤ a) (ha2 : a ≤ 50000) (hb : -50000 ≤ b) (hb2 : b ≤ 50000) (hc : -100000000 ≤ c) (hc2 : c ≤ 100000000) :
    ∃ A B C g : Int, ansH a b c = spotS A B C ∧ okH A B C = true ∧ 1 ≤ g ∧ a = A * g ∧ b = B * g ∧ c = C * g := by
  have hg := gS_posH (c := c) h0
  have ea : a = a.tdiv (gS a b c) * (gS a b c : Int) := (Int.tdiv_mul_cancel (gS_dvd_x a b c)).symm
  have eb : b = b.tdiv (gS a b c) * (gS a b c : Int) := (Int.tdiv_mul_cancel (gS_dvd_y a b c)).symm
  have ec : c = c.tdiv (gS a b c) * (gS a b c : Int) := (Int.tdiv_mul_cancel (gS_dvd_d a b c)).symm
  have one := red_lowH hg ea eb ec
  obtain ⟨a1, a2⟩ := div_in (by omega) ea ha ha2
  obtain ⟨b1, b2⟩ := div_in (by omega) eb hb hb2
  obtain ⟨c1, c2⟩ := div_in (by omega) ec hc hc2
  have nz : a.tdiv (gS a b c) ≠ 0 ∨ b.tdiv (gS a b c) ≠ 0 := by
    rcases h0 with h | h
    · left; intro q; rw [q] at ea; simp at ea; exact h ea
    · right; intro q; rw [q] at eb; simp at eb; exact h eb
  have ok : okH (a.tdiv (gS a b c)) (b.tdiv (gS a b c)) (c.tdiv (gS a b c)) = true := (okH_iff _ _ _).2 ⟨a1, a2, b1, b2, nz, c1, c2, one⟩
  exact ⟨_, _, _, (gS a b c : Int), ansH_yes (by rw [hasH_of h0]; exact ok), ok, by omega, ea, eb, ec⟩
/-- a small valid half plane -/
def SmallH (a b c : Int) : Prop := okH a b c = true ∧ -6 ≤ a ∧ a ≤ 6 ∧ -6 ≤ b ∧ b ≤ 6 ∧ -300 ≤ c ∧ c ≤ 300
theorem small_half (a b c : Int) (h0 : a ≠ 0 ∨ b ≠ 0) (ha : -6 ≤ a) (ha2 : a ≤ 6) (hb : -6 ≤ b) (hb2 : b ≤ 6) (hc : -300 ≤ c) (hc2 : c ≤ 300) : ∃ A B C : Int, ansH a b c = spotS A B C ∧ SmallH A B C := by
  obtain ⟨A, B, C, g, hA, hok, hg, ea, eb, ec⟩ := has_half (c := c) h0 (by omega) (by omega) (by omega) (by omega) (by omega) (by omega)
  obtain ⟨a1, a2⟩ := div_in hg ea ha ha2
  obtain ⟨b1, b2⟩ := div_in hg eb hb hb2
  obtain ⟨c1, c2⟩ := div_in hg ec hc hc2
  exact ⟨A, B, C, hA, hok, a1, a2, b1, b2, c1, c2⟩
/-- a drawn half plane -/
def GaveH (g : Nat) (a : Option Addr) (len cap : Nat) (w : World) (e : Ending) (w' : World) : Prop := ∃ X Y D : Int, SmallH X Y D ∧ e = .returned (.agg #[.int .i64 X, .int .i64 Y, .int .i64 D]) ∧ Drawn g a len cap w w'

set_option maxHeartbeats 1600000 in
theorem draw_half {w : World} {g len cap : Nat} {a : Option Addr} (h : Src w g a len cap) : Calls Try.prog 43 #[.pointer (some ⟨g, 0, none⟩)] w (GaveH g a len cap w) := by
  have hgs : g < w.heap.size := by obtain ⟨⟨_, _, hq, _⟩, _⟩ := h; exact lt_of_block hq
  have H0 := Lib.hid (h.alloc (.cells #[.int .i64 0, .int .i64 0, .int .i64 0] 24))
  clear h
  go_enter Try.func43, Try.ntmps43
  go_wp2_with fail
  refine (below_cur 13 H0.out (by omega) (by omega)).mono ?_
  rintro e w1 ⟨x, ⟨x0, x1⟩, rfl, hd1⟩
  have H1 := Lib.hid (H0.out.drawn hd1)
  go_wp2_with fail
  refine (below_cur 13 H1.out (by omega) (by omega)).mono ?_
  rintro e w2 ⟨y, ⟨y0, y1⟩, rfl, hd2⟩
  have H2 := Lib.hid (H1.out.drawn hd2)
  go_wp2_with fail
  refine (below_cur 400 H2.out (by omega) (by omega)).mono ?_
  rintro e w3 ⟨z, ⟨z0, z1⟩, rfl, hd3⟩
  have H3 := Lib.hid (H2.out.drawn hd3)
  have HD := Lib.hid ((Drawn.trans hd1 hd2).trans hd3)
  have HF := Lib.hid (fun W => spec_hof (x - 6) (y - 6) (z - 100) W (by omega) (by omega) (by omega) (by omega) (by omega) (by omega))
  clear hd1 hd2 hd3
  by_cases hz : x - 6 ≠ 0 ∨ y - 6 ≠ 0
  · obtain ⟨X, Y, D, hA, hs⟩ := small_half (x - 6) (y - 6) (z - 100) hz (by omega) (by omega) (by omega) (by omega) (by omega) (by omega)
    have HS := Lib.hid hs
    rw [hA] at HF
    clear hA hs hz
    unfold spotS at HF
    go_wp2_with fail
    refine (HF.out _).mono ?_
    rintro e w4 ⟨rfl, hb4⟩
    have HD4 := Lib.hid (HD.out.trans (drawn_below H3.out.1 hb4))
    have hh : w4.heap[w.heap.size]? = some (.cells #[.int .i64 0, .int .i64 0, .int .i64 0] 24 (0, 0)) := by
      rw [HD4.out.1.block w.heap.size (by simp) (by simp; omega)]
      exact heap_alloc_new w _
    have c0 := cell_of_row _ _ 0 _ _ _ hh
    have c1 := cell_of_row _ _ 1 _ _ _ hh
    have c2 := cell_of_row _ _ 2 _ _ _ hh
    have f0 := frozen_of_row _ _ 0 _ _ hh
    have f1 := frozen_of_row _ _ 1 _ _ hh
    have f2 := frozen_of_row _ _ 2 _ _ hh
    have hz := lt_of_block hh
    simp at c0 c1 c2
    clear hb4 hh
    go_wp2_with fail
    refine bodyPost_ret (v := .agg #[.int .i64 X, .int .i64 Y, .int .i64 D]) (by simp [results, Try.results43, go_sem, c0, c1, c2, hz]) rfl ⟨X, Y, D, HS.out, rfl, ?_⟩
    have q : Drawn g a len cap w w4 := ⟨grown_trans (grown_alloc w _ _) HD4.out.1, HD4.out.2⟩
    exact drawn_alloc hgs (drawn_set hgs (Nat.le_refl _) _ _ (drawn_set hgs (Nat.le_refl _) _ _ (drawn_set hgs (Nat.le_refl _) _ _ q))) _
  · rw [ansH_no (hasH_no (by omega))] at HF
    unfold zeroS at HF
    clear hz
    go_wp2_with fail
    refine (HF.out _).mono ?_
    rintro e w4 ⟨rfl, hb4⟩
    have HD4 := Lib.hid (HD.out.trans (drawn_below H3.out.1 hb4))
    have hh : w4.heap[w.heap.size]? = some (.cells #[.int .i64 0, .int .i64 0, .int .i64 0] 24 (0, 0)) := by
      rw [HD4.out.1.block w.heap.size (by simp) (by simp; omega)]
      exact heap_alloc_new w _
    have c0 := cell_of_row _ _ 0 _ _ _ hh
    have c1 := cell_of_row _ _ 1 _ _ _ hh
    have c2 := cell_of_row _ _ 2 _ _ _ hh
    have f0 := frozen_of_row _ _ 0 _ _ hh
    have f1 := frozen_of_row _ _ 1 _ _ hh
    have f2 := frozen_of_row _ _ 2 _ _ hh
    have hz := lt_of_block hh
    simp at c0 c1 c2
    clear hb4 hh
    go_wp2_with fail
    refine bodyPost_ret (v := .agg #[.int .i64 1, .int .i64 0, .int .i64 5]) (by simp [results, Try.results43, go_sem, c0, c1, c2, hz]) rfl ⟨1, 0, 5, ⟨by decide, by omega, by omega, by omega, by omega, by omega, by omega⟩, rfl, ?_⟩
    have q : Drawn g a len cap w w4 := ⟨grown_trans (grown_alloc w _ _) HD4.out.1, HD4.out.2⟩
    exact drawn_alloc hgs (drawn_set hgs (Nat.le_refl _) _ _ (drawn_set hgs (Nat.le_refl _) _ _ (drawn_set hgs (Nat.le_refl _) _ _ q))) _

/-- a small valid half plane, out of new memory alone -/
def MadeH (w : World) (e : Ending) (w' : World) : Prop := ∃ X Y D : Int, SmallH X Y D ∧ e = .returned (.agg #[.int .i64 X, .int .i64 Y, .int .i64 D]) ∧ Below w.heap.size w w'

set_option maxHeartbeats 800000 in
theorem make_half (w : World) (a : Option Addr) (len cap n : Nat) (hn : n ≤ 1000000) (hl : len ≤ 1048576) (hB : BytesAt w a len) : Calls Try.prog 15 #[.slice a len cap, .int .i64 n] w (MadeH w) := by
  have hb0 := below_box w (.cells #[.int .i64 0, .int .i64 0, .int .i64 0] 24)
  have HB := Lib.hid (hB.below hb0)
  clear hB
  go_enter Try.func15, Try.ntmps15
  go_wp2_with fail
  refine (new26 _ a len cap n hn hl HB.out).mono ?_
  rintro e w1 ⟨g, rfl, hg, hs, hb⟩
  have HS := Lib.hid hs
  clear hs
  go_wp2_with fail
  refine (draw_half HS.out).mono ?_
  rintro e w2 ⟨X, Y, D, hsm, rfl, hd⟩
  have hw2 : Below (w.alloc (.cells #[.int .i64 0, .int .i64 0, .int .i64 0] 24)).heap.size (w.alloc (.cells #[.int .i64 0, .int .i64 0, .int .i64 0] 24)) w2 := below_drawn hb hg hd
  obtain ⟨c0, c1, c2, f0, f1, f2⟩ := has3_to hw2 (has3_new w (.int .i64 0) (.int .i64 0) (.int .i64 0) 24)
  have hfin := below_to hb0 hw2
  have HM := Lib.hid hsm
  clear hw2 hd hb hsm
  go_wp2_with fail
  refine bodyPost_ret (v := .agg #[.int .i64 X, .int .i64 Y, .int .i64 D]) (by simp [results, Try.results15, go_sem, c0, c1, c2]) rfl ⟨X, Y, D, HM.out, rfl, ?_⟩
  exact below_set3 _ _ _ hfin (Nat.le_refl _)
/-- a small whole spot, out of new memory alone -/
def MadeW (w : World) (e : Ending) (w' : World) : Prop := ∃ X Y : Int, (-40 ≤ X ∧ X ≤ 39 ∧ -40 ≤ Y ∧ Y ≤ 39) ∧ e = .returned (.agg #[.int .i64 X, .int .i64 Y, .int .i64 1]) ∧ Below w.heap.size w w'

set_option maxHeartbeats 800000 in
theorem make_whole (w : World) (a : Option Addr) (len cap n : Nat) (hn : n ≤ 1000000) (hl : len ≤ 1048576) (hB : BytesAt w a len) : Calls Try.prog 22 #[.slice a len cap, .int .i64 n] w (MadeW w) := by
  have hb0 := below_box w (.cells #[.int .i64 0, .int .i64 0, .int .i64 0] 27)
  have HB := Lib.hid (hB.below hb0)
  clear hB
  go_enter Try.func22, Try.ntmps22
  go_wp2_with fail
  refine (new26 _ a len cap n hn hl HB.out).mono ?_
  rintro e w1 ⟨g, rfl, hg, hs, hb⟩
  have HS := Lib.hid hs
  clear hs
  go_wp2_with fail
  refine (below_cur 80 HS.out (by omega) (by omega)).mono ?_
  rintro e w2 ⟨x, ⟨x0, x1⟩, rfl, hd2⟩
  have H2 := Lib.hid (HS.out.drawn hd2)
  go_wp2_with fail
  refine (below_cur 80 H2.out (by omega) (by omega)).mono ?_
  rintro e w3 ⟨y, ⟨y0, y1⟩, rfl, hd3⟩
  have hw2 : Below (w.alloc (.cells #[.int .i64 0, .int .i64 0, .int .i64 0] 27)).heap.size (w.alloc (.cells #[.int .i64 0, .int .i64 0, .int .i64 0] 27)) w3 := below_drawn hb hg (Drawn.trans hd2 hd3)
  obtain ⟨c0, c1, c2, f0, f1, f2⟩ := has3_to hw2 (has3_new w (.int .i64 0) (.int .i64 0) (.int .i64 0) 27)
  have hfin := below_to hb0 hw2
  clear hw2 hd2 hd3 hb
  go_wp2_with fail
  refine bodyPost_ret (v := .agg #[.int .i64 (x - 40), .int .i64 (y - 40), .int .i64 1]) (by simp [results, Try.results22, go_sem, c0, c1, c2]) rfl ⟨x - 40, y - 40, by omega, rfl, ?_⟩
  exact below_set3 _ _ _ hfin (Nat.le_refl _)
end Go.Proofs.Ytkodoedkdgldnaa
