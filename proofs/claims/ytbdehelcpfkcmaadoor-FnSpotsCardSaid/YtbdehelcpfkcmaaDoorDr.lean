/- The contracts of the laws' makers of fractions, over the translation. -/
import Derived.Test.YtbdehelcpfkcmaaDoorOf
import Derived.Test.YtbdehelcpfkcmaaDoorMake
namespace Go.Proofs.YtbdehelcpfkcmaaDoor
open Go.RowKit

/-- a valid fraction, small -/
def Small (N D : Int) : Prop := okR N D = true ∧ -200 ≤ N ∧ N ≤ 200 ∧ 1 ≤ D ∧ D ≤ 12
theorem small_of (n d : Int) (hn : -200 ≤ n) (hn2 : n ≤ 199) (hd : 1 ≤ d) (hd2 : d ≤ 12) : Small (n / (Int.gcd n d : Int)) (d / (Int.gcd n d : Int)) ∧ n.tdiv (Int.gcd n d : Int) = n / (Int.gcd n d : Int) := by
  have hg : 0 < Int.gcd n d := Nat.gcd_pos_of_pos_right _ (by omega)
  have h1 : (Int.gcd n d : Int) ∣ n := Int.gcd_dvd_left ..
  have h2 : (Int.gcd n d : Int) ∣ d := Int.gcd_dvd_right ..
  have h3 := Int.ediv_mul_cancel h1
  have h4 := Int.ediv_mul_cancel h2
  have h5 : Int.gcd (n / (Int.gcd n d : Int)) (d / (Int.gcd n d : Int)) = 1 := Int.gcd_ediv_gcd_ediv_gcd hg
  refine ⟨?_, Int.tdiv_eq_ediv_of_dvd h1⟩
  generalize Int.gcd n d = g at *
  have hg2 : (1 : Int) ≤ (g : Int) := by omega
  generalize n / (g : Int) = N at *
  generalize d / (g : Int) = D at *
  have hD : 1 ≤ D := by
    rcases Int.lt_or_le D 1 with h | h
    · have : D * (g : Int) ≤ 0 := Int.mul_nonpos_of_nonpos_of_nonneg (by omega) (by omega)
      omega
    · exact h
  have hD2 : D * 1 ≤ D * (g : Int) := Int.mul_le_mul_of_nonneg_left hg2 (by omega)
  have hN : -200 ≤ N ∧ N ≤ 200 := by
    rcases Int.lt_or_le N 0 with h | h
    · have : N * (g : Int) ≤ N * 1 := Int.mul_le_mul_of_nonpos_left (by omega) hg2
      omega
    · have : N * 1 ≤ N * (g : Int) := Int.mul_le_mul_of_nonneg_left hg2 h
      omega
  exact ⟨(okR_iff _ _).2 ⟨hD, by omega, by omega, by omega, h5⟩, hN.1, hN.2, hD, by omega⟩

theorem drawn_below {w w' : World} {g len cap : Nat} {a : Option Addr} (h : Cur w g a len cap) (hb : Below w.heap.size w w') : Drawn g a len cap w w' := by
  have hg : g < w.heap.size := by obtain ⟨_, _, hq, _⟩ := h; exact lt_of_block hq
  exact ⟨⟨hb.os, hb.tape, hb.output, hb.size, fun k hk _ => hb.block k hk⟩, h.kept (hb.block g hg)⟩

/-- a drawn fraction -/
def GaveR (g : Nat) (a : Option Addr) (len cap : Nat) (w : World) (e : Ending) (w' : World) : Prop := ∃ N D : Int, Small N D ∧ e = .returned (.agg #[.int .i64 N, .int .i64 D]) ∧ Drawn g a len cap w w'

/-- a small valid fraction, out of new memory alone -/
def MadeR (w : World) (e : Ending) (w' : World) : Prop := ∃ N D : Int, Small N D ∧ e = .returned (.agg #[.int .i64 N, .int .i64 D]) ∧ Below w.heap.size w w'

end Go.Proofs.YtbdehelcpfkcmaaDoor
