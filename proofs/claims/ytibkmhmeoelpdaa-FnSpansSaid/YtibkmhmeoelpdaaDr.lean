/- The contracts of the laws' makers of fractions, over the translation. -/
import Derived.Test.YtibkmhmeoelpdaaHq
import Derived.Test.YtibkmhmeoelpdaaCq
import Derived.Test.YtibkmhmeoelpdaaTs
namespace Go.Proofs.Ytibkmhmeoelpdaa
open Go.RowKit

/-- a valid fraction, small -/
def Small (N D : Int) : Prop := okR N D = true ∧ -200 ≤ N ∧ N ≤ 200 ∧ 1 ≤ D ∧ D ≤ 12
theorem small_of (n d : Int) (hn : -200 ≤ n) (hn2 : n ≤ 199) (hd : 1 ≤ d) (hd2 : d ≤ 12) : Small (n / (Int.gcd n d : Int)) (d / (Int.gcd n d : Int)) ∧ n.tdiv (Int.gcd n d : Int) = n / (Int.gcd n d : Int) := by
  have hg : 0 < Int.gcd n d := Nat.gcd_pos_of_pos_right _ (by omega)
  have h1 : (Int.gcd n d : Int) ∣ n := Int.gcd_dvd_left ..
  have h2 : (Int.gcd n d : Int) ∣ d := Int.gcd_dvd_right ..
  have h3 := Int.ediv_mul_cancel h1
  have h4 := Int.ediv_mul_cancel h2
  have h5 : Int.gcd (n / (Int.gcd n d : Int)) (d / (Int.gcd n d : Int)) = 1 := Int.gcd_ediv_gcd_ediv_gcd hg
  refine ⟨?_, Int.tdiv_eq_ediv_of_dvd h1⟩
  generalize Int.gcd n d = g at *
  have hg2 : (1 : Int) ≤ (g : Int) := by omega
  generalize n / (g : Int) = N at *
  generalize d / (g : Int) = D at *
  have hD : 1 ≤ D := by
    rcases Int.lt_or_le D 1 with h | h
    · have : D * (g : Int) ≤ 0 := Int.mul_nonpos_of_nonpos_of_nonneg (by omega) (by omega)
      omega
    · exact h
  have hD2 : D * 1 ≤ D * (g : Int) := Int.mul_le_mul_of_nonneg_left hg2 (by omega)
  have hN : -200 ≤ N ∧ N ≤ 200 := by
    rcases Int.lt_or_le N 0 with h | h
    · have : N * (g : Int) ≤ N * 1 := Int.mul_le_mul_of_nonpos_left (by omega) hg2
      omega
    · have : N * 1 ≤ N * (g : Int) := Int.mul_le_mul_of_nonneg_left hg2 h
      omega
  exact ⟨(okR_iff _ _).2 ⟨hD, by omega, by omega, by omega, h5⟩, hN.1, hN.2, hD, by omega⟩

/-- a drawn fraction -/
def GaveR (g : Nat) (a : Option Addr) (len cap : Nat) (w : World) (e : Ending) (w' : World) : Prop := ∃ N D : Int, Small N D ∧ e = .returned (.agg #[.int .i64 N, .int .i64 D]) ∧ Drawn g a len cap w w'

set_option maxHeartbeats 800000 in
theorem draw_ratio {w : World} {g len cap : Nat} {a : Option Addr} (h : Src w g a len cap) : Calls Try.prog 62 #[.pointer (some ⟨g, 0, none⟩)] w (GaveR g a len cap w) := by
  have hgs : g < w.heap.size := by obtain ⟨⟨_, _, hq, _⟩, _⟩ := h; exact lt_of_block hq
  have H := Lib.hid h
  have H0 := Lib.hid (h.alloc (.cells #[.int .i64 0, .int .i64 0] 27))
  clear h
  go_enter Try.func62, Try.ntmps62
  go_wp2_with fail
  refine (below_cur 400 H0.out (by omega) (by omega)).mono ?_
  rintro e w1 ⟨x, ⟨hx0, hx1⟩, rfl, hd1⟩
  have H1 := Lib.hid (H0.out.drawn hd1)
  go_wp2_with fail
  refine (below_cur 12 H1.out (by omega) (by omega)).mono ?_
  rintro e w2 ⟨y, ⟨hy0, hy1⟩, rfl, hd2⟩
  have H2 := Lib.hid (H1.out.drawn hd2)
  obtain ⟨hs, hT⟩ := small_of (x - 200) (1 + y) (by omega) (by omega) (by omega) (by omega)
  have hh : w2.heap[w.heap.size]? = some (.cells #[.int .i64 0, .int .i64 0] 27 (0, 0)) := by
    rw [(Drawn.trans hd1 hd2).1.block w.heap.size (by simp) (by simp; omega)]
    exact heap_alloc_new w _
  have HD := Lib.hid (Drawn.trans hd1 hd2)
  clear hd1 hd2
  go_wp2_with fail
  obtain ⟨N, hN⟩ : ∃ N, (x - 200) / (Int.gcd (x - 200) (1 + y) : Int) = N := ⟨_, rfl⟩
  obtain ⟨D, hD⟩ : ∃ D, (1 + y) / (Int.gcd (x - 200) (1 + y) : Int) = D := ⟨_, rfl⟩
  rw [hN] at hs hT
  rw [hD] at hs
  obtain ⟨s0, s1, s2, s3, s4⟩ := hs
  refine (spec_of (x - 200) (1 + y) N D _ (by omega) (by omega) (by omega) (by omega) hN hD (by omega) (by omega) (by omega) (by omega) hT s0).mono ?_
  rintro e w3 ⟨rfl, hb3⟩
  have hh3 := heap_blw hb3 hh
  have c0 := cell_of_row _ _ 0 _ _ _ hh3
  have c1 := cell_of_row _ _ 1 _ _ _ hh3
  have f0 := frozen_of_row _ _ 0 _ _ hh3
  have f1 := frozen_of_row _ _ 1 _ _ hh3
  have HH := Lib.hid hh3
  simp at c0 c1
  have HD3 := Lib.hid (HD.out.trans (drawn_below H2.out.1 hb3))
  have HS := Lib.hid (show Small N D from ⟨s0, s1, s2, s3, s4⟩)
  clear hN hD hT s0 hh hh3 hb3
  go_wp2_with fail
  refine bodyPost_ret (v := .agg #[.int .i64 N, .int .i64 D]) (by simp [results, Try.results62, go_sem, c0, c1]) rfl ⟨N, D, HS.out, rfl, ?_⟩
  have d0 : Drawn g a len cap w w3 := ⟨grown_trans (grown_alloc w _ _) HD3.out.1, HD3.out.2⟩
  refine ⟨⟨d0.1.os, d0.1.tape, d0.1.output, ?_, ?_⟩, d0.2.kept ?_⟩
  · have := d0.1.size; simpa [World.setCell] using this
  · intro k hk hr
    rw [heap_setCell_other _ _ k _ (by simp; omega), heap_setCell_other _ _ k _ (by simp; omega)]
    exact d0.1.block k hk hr
  · rw [heap_setCell_other _ _ g _ (by simp; omega), heap_setCell_other _ _ g _ (by simp; omega)]

/-- a small valid fraction, out of new memory alone -/
def MadeR (w : World) (e : Ending) (w' : World) : Prop := ∃ N D : Int, Small N D ∧ e = .returned (.agg #[.int .i64 N, .int .i64 D]) ∧ Below w.heap.size w w'

set_option maxHeartbeats 800000 in
theorem make_ratio (w : World) (a : Option Addr) (len cap n : Nat) (hn : n ≤ 1000000) (hl : len ≤ 1048576) (hB : BytesAt w a len) : Calls Try.prog 31 #[.slice a len cap, .int .i64 n] w (MadeR w) := by
  have hb0 := below_box w (.cells #[.int .i64 0, .int .i64 0] 27)
  have HB := Lib.hid (hB.below hb0)
  clear hB
  go_enter Try.func31, Try.ntmps31
  go_wp2_with fail
  refine (new26 _ a len cap n hn hl HB.out).mono ?_
  rintro e w1 ⟨g, rfl, hg, hs, hb⟩
  have HS := Lib.hid hs
  clear hs
  have hh := heap_blw hb (heap_alloc_new w (.cells #[.int .i64 0, .int .i64 0] 27))
  go_wp2_with fail
  refine (draw_ratio HS.out).mono ?_
  rintro e w2 ⟨N, D, hsm, rfl, hd⟩
  have hw2 : Below (w.alloc (.cells #[.int .i64 0, .int .i64 0] 27)).heap.size (w.alloc (.cells #[.int .i64 0, .int .i64 0] 27)) w2 := below_drawn hb hg hd
  have hh2 := heap_blw hw2 (heap_alloc_new w (.cells #[.int .i64 0, .int .i64 0] 27))
  have c0 := cell_of_row _ _ 0 _ _ _ hh2
  have c1 := cell_of_row _ _ 1 _ _ _ hh2
  have f0 := frozen_of_row _ _ 0 _ _ hh2
  have f1 := frozen_of_row _ _ 1 _ _ hh2
  simp at c0 c1
  have hfin := hb0.trans (hw2.mono hb0.size)
  clear hh hh2 hw2 hd hb
  have HM := Lib.hid hsm
  clear hsm
  go_wp2_with fail
  refine bodyPost_ret (v := .agg #[.int .i64 N, .int .i64 D]) (by simp [results, Try.results31, go_sem, c0, c1]) rfl ⟨N, D, HM.out, rfl, ?_⟩
  exact (hfin.setCell (by simp) _).setCell (by simp) _
end Go.Proofs.Ytibkmhmeoelpdaa
