/- Plain facts on two fractions brought to their least common denominator. -/
import Derived.Test.YtbdehelcpfkcmaaDoorSf
namespace Go.Proofs.YtbdehelcpfkcmaaDoor

theorem cop_dvd {a b c : Int} (h : a ∣ b * c) (hg : Int.gcd a b = 1) : a ∣ c := by
  have h1 : a.natAbs ∣ b.natAbs * c.natAbs := by rw [← Int.natAbs_mul]; exact Int.natAbs_dvd_natAbs.2 h
  exact Int.natAbs_dvd_natAbs.1 (Nat.Coprime.dvd_of_dvd_mul_left hg h1)
/-- by what the first and the second fraction are widened, and the least common denominator -/
def wa (d1 d2 : Int) : Int := d2 / (Int.gcd d1 d2 : Int)
def wb (d1 d2 : Int) : Int := d1 / (Int.gcd d1 d2 : Int)
def lc (d1 d2 : Int) : Int := d1 * wa d1 d2
theorem lc_facts {d1 d2 : Int} (h1 : 1 ≤ d1) (h2 : 1 ≤ d2) : 1 ≤ wa d1 d2 ∧ 1 ≤ wb d1 d2 ∧ lc d1 d2 = d2 * wb d1 d2 ∧ Int.gcd (wa d1 d2) (wb d1 d2) = 1 ∧ lc d1 d2 / d1 = wa d1 d2 ∧ lc d1 d2 / d2 = wb d1 d2 ∧ wb d1 d2 * d2 = lc d1 d2 ∧ wa d1 d2 * d1 = lc d1 d2 ∧ (0 : Int) < (Int.gcd d1 d2 : Int) ∧ (Int.gcd d1 d2 : Int) ≤ d1 ∧ wa d1 d2 ≤ d2 ∧ wb d1 d2 ≤ d1 := by
  have hg : 0 < Int.gcd d1 d2 := Nat.gcd_pos_of_pos_right _ (by omega)
  have e1 : (Int.gcd d1 d2 : Int) * wb d1 d2 = d1 := Int.mul_ediv_cancel' (Int.gcd_dvd_left ..)
  have e2 : (Int.gcd d1 d2 : Int) * wa d1 d2 = d2 := Int.mul_ediv_cancel' (Int.gcd_dvd_right ..)
  have e3 : Int.gcd (wb d1 d2) (wa d1 d2) = 1 := Int.gcd_ediv_gcd_ediv_gcd hg
  have hle : (Int.gcd d1 d2 : Int) ≤ d1 := Int.le_of_dvd (by omega) (Int.gcd_dvd_left ..)
  unfold lc
  generalize wa d1 d2 = a at *
  generalize wb d1 d2 = b at *
  generalize hG : (Int.gcd d1 d2 : Int) = g at *
  have hg2 : 1 ≤ g := by omega
  have ha : 1 ≤ a := by
    rcases Int.lt_or_le a 1 with h | h
    · have : g * a ≤ 0 := Int.mul_nonpos_of_nonneg_of_nonpos (by omega) (by omega)
      omega
    · exact h
  have hb : 1 ≤ b := by
    rcases Int.lt_or_le b 1 with h | h
    · have : g * b ≤ 0 := Int.mul_nonpos_of_nonneg_of_nonpos (by omega) (by omega)
      omega
    · exact h
  have hla : 1 * a ≤ g * a := Int.mul_le_mul_of_nonneg_right hg2 (by omega)
  have hlb : 1 * b ≤ g * b := Int.mul_le_mul_of_nonneg_right hg2 (by omega)
  have e4 : d1 * a = d2 * b := by rw [← e1, ← e2, Int.mul_assoc, Int.mul_assoc, Int.mul_comm b a]
  refine ⟨ha, hb, e4, by rw [Int.gcd_comm]; exact e3, ?_, ?_, ?_, by rw [Int.mul_comm], by omega, hle, by omega, by omega⟩
  · exact Int.mul_ediv_cancel_left _ (by omega)
  · rw [e4]; exact Int.mul_ediv_cancel_left _ (by omega)
  · rw [e4, Int.mul_comm]
/-- so widened, two fractions in lowest terms are a spot in lowest terms -/
theorem lc_low {n1 d1 n2 d2 : Int} (h1 : 1 ≤ d1) (h2 : 1 ≤ d2) (c1 : Int.gcd n1 d1 = 1) (c2 : Int.gcd n2 d2 = 1) : gS (n1 * wa d1 d2) (n2 * wb d1 d2) (lc d1 d2) = 1 := by
  obtain ⟨ha, hb, e4, e5, _, _, e6, e7, hg, _, _, _⟩ := lc_facts h1 h2
  have f1 : (Int.gcd d1 d2 : Int) * wb d1 d2 = d1 := Int.mul_ediv_cancel' (Int.gcd_dvd_left ..)
  have f2 : (Int.gcd d1 d2 : Int) * wa d1 d2 = d2 := Int.mul_ediv_cancel' (Int.gcd_dvd_right ..)
  have hL : 1 ≤ lc d1 d2 := by
    rw [← e7]
    have : 1 * 1 ≤ wa d1 d2 * d1 := Int.mul_le_mul ha h1 (by omega) (by omega)
    omega
  refine gS_one fun k hx hy hd => ?_
  generalize hG : (Int.gcd d1 d2 : Int) = g at *
  generalize wa d1 d2 = a at *
  generalize wb d1 d2 = b at *
  generalize lc d1 d2 = L at *
  obtain ⟨L', rfl⟩ := hd
  have hk : (k : Int) ≠ 0 := by rintro e; rw [e] at hL; simp at hL
  have key : ∀ n d c : Int, Int.gcd n d = 1 → c * d = (k : Int) * L' → (k : Int) ∣ n * c → d ∣ L' := by
    intro n d c hc hcd ⟨t, ht⟩
    have : (k : Int) * (n * L') = (k : Int) * (t * d) := by
      calc (k : Int) * (n * L') = n * ((k : Int) * L') := by rw [← Int.mul_assoc, Int.mul_comm (k : Int) n, Int.mul_assoc]
        _ = n * (c * d) := by rw [hcd]
        _ = (n * c) * d := by rw [Int.mul_assoc]
        _ = ((k : Int) * t) * d := by rw [ht]
        _ = (k : Int) * (t * d) := by rw [Int.mul_assoc]
    have h := Int.eq_of_mul_eq_mul_left hk this
    have : d ∣ n * L' := ⟨t, by rw [h, Int.mul_comm]⟩
    exact cop_dvd this (by rw [Int.gcd_comm]; exact hc)
  have k1 := key n1 d1 a c1 e7 hx
  have k2 := key n2 d2 b c2 e6 hy
  obtain ⟨u, hu⟩ := k1
  have k3 : a ∣ u := by
    have h : d2 ∣ d1 * u := by rw [← hu]; exact k2
    rw [← f1, ← f2, Int.mul_assoc] at h
    have h' : a ∣ b * u := Int.dvd_of_mul_dvd_mul_left (by omega) h
    exact cop_dvd h' e5
  obtain ⟨v, rfl⟩ := k3
  have e8 : L' = ((k : Int) * L') * v := by rw [← e7, Int.mul_comm a d1, Int.mul_assoc]; exact hu
  have hL' : L' ≠ 0 := by rintro rfl; simp at hL
  have e9 : L' * 1 = L' * ((k : Int) * v) := by
    calc L' * 1 = L' := Int.mul_one _
      _ = ((k : Int) * L') * v := e8
      _ = L' * ((k : Int) * v) := by rw [Int.mul_comm (k : Int) L', Int.mul_assoc]
  have e10 := Int.eq_of_mul_eq_mul_left hL' e9
  have : (k : Int) ∣ 1 := ⟨v, e10⟩
  exact Nat.dvd_one.1 (Int.natCast_dvd_natCast.1 this)
/-- the two fractions make a spot -/
def fitB (n1 d1 n2 d2 : Int) : Bool := decide (d1 ≤ 5000000000) && decide (d2 ≤ 5000000000) && decide (lc d1 d2 ≤ 5000000000) && decide (-(1000 * d1) ≤ n1) && decide (n1 ≤ 1000 * d1) && decide (-(1000 * d2) ≤ n2) && decide (n2 ≤ 1000 * d2)
theorem fitB_iff (n1 d1 n2 d2 : Int) : fitB n1 d1 n2 d2 = true ↔ d1 ≤ 5000000000 ∧ d2 ≤ 5000000000 ∧ lc d1 d2 ≤ 5000000000 ∧ -(1000 * d1) ≤ n1 ∧ n1 ≤ 1000 * d1 ∧ -(1000 * d2) ≤ n2 ∧ n2 ≤ 1000 * d2 := by
  unfold fitB; simp [and_assoc]
def parS (n1 d1 n2 d2 : Int) : Value := if fitB n1 d1 n2 d2 = true then spotS (n1 * wa d1 d2) (n2 * wb d1 d2) (lc d1 d2) else zeroS
theorem wide_in {n d a L : Int} (h : a * d = L) (ha : 1 ≤ a) (h1 : -(1000 * d) ≤ n) (h2 : n ≤ 1000 * d) : -(1000 * L) ≤ n * a ∧ n * a ≤ 1000 * L := by
  have k1 : -(1000 * d) * a ≤ n * a := Int.mul_le_mul_of_nonneg_right h1 (by omega)
  have k2 : n * a ≤ 1000 * d * a := Int.mul_le_mul_of_nonneg_right h2 (by omega)
  have e : 1000 * d * a = 1000 * L := by rw [← h, Int.mul_assoc, Int.mul_comm d a]
  rw [Int.neg_mul] at k1
  rw [e] at k1 k2
  exact ⟨k1, k2⟩
theorem fit_ok {n1 d1 n2 d2 : Int} (o1 : okR n1 d1 = true) (o2 : okR n2 d2 = true) (hf : fitB n1 d1 n2 d2 = true) : okS (n1 * wa d1 d2) (n2 * wb d1 d2) (lc d1 d2) = true := by
  obtain ⟨a1, _, _, _, a5⟩ := (okR_iff _ _).1 o1
  obtain ⟨b1, _, _, _, b5⟩ := (okR_iff _ _).1 o2
  obtain ⟨f1, f2, f3, f4, f5, f6, f7⟩ := (fitB_iff _ _ _ _).1 hf
  obtain ⟨ha, hb, e4, _, _, _, e6, e7, _, _, _, _⟩ := lc_facts a1 b1
  have w1 := wide_in e7 ha f4 f5
  have w2 := wide_in e6 hb f6 f7
  have hL : 1 ≤ lc d1 d2 := by
    rw [← e7]
    have : 1 * 1 ≤ wa d1 d2 * d1 := Int.mul_le_mul ha a1 (by omega) (by omega)
    omega
  exact (okS_iff _ _ _).2 ⟨hL, f3, w1.1, w1.2, w2.1, w2.2, lc_low a1 b1 a5 b5⟩
/-- its text is that of the two fractions -/
theorem fit_text {n1 d1 n2 d2 : Int} (o1 : okR n1 d1 = true) (o2 : okR n2 d2 = true) (hf : fitB n1 d1 n2 d2 = true) : fmtS (n1 * wa d1 d2) (n2 * wb d1 d2) (lc d1 d2) = fmtR n1 d1 ++ 44 :: fmtR n2 d2 := by
  rw [fmtS_yes (fit_ok o1 o2 hf)]
  obtain ⟨a1, _, _, _, a5⟩ := (okR_iff _ _).1 o1
  obtain ⟨b1, _, _, _, b5⟩ := (okR_iff _ _).1 o2
  obtain ⟨ha, hb, e4, _, _, _, e6, e7, _, _, _, _⟩ := lc_facts a1 b1
  obtain ⟨_, s1, s2, _⟩ := scaled (wa d1 d2) n1 d1 (by omega) o1
  obtain ⟨_, t1, t2, _⟩ := scaled (wb d1 d2) n2 d2 (by omega) o2
  rw [e7, Int.mul_comm] at s1 s2
  rw [e6, Int.mul_comm] at t1 t2
  rw [s1, s2, t1, t2]
theorem ans_low {x y d : Int} (h : okS x y d = true) : ansS x y d = spotS x y d := by
  obtain ⟨h1, _, _, _, _, _, h7⟩ := (okS_iff _ _ _).1 h
  rw [ansS_if (X := x) (Y := y) (D := d) (g := 1) (by rw [h7]; rfl) h1 (Int.tdiv_one _) (Int.tdiv_one _) (Int.tdiv_one _), h]
  rfl
theorem gt_iff {b M d : Int} (hd : 0 < d) : M / d < b ↔ M < b * d := Int.ediv_lt_iff_lt_mul hd
end Go.Proofs.YtbdehelcpfkcmaaDoor
