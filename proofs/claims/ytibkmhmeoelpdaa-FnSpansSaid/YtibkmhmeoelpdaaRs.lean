/- What FnSpans asks of spans (no calls), and the laws' MakeSpan over the translation. -/
import Derived.Test.YtibkmhmeoelpdaaFm
import Derived.Test.YtibkmhmeoelpdaaDr
namespace Go.Proofs.Ytibkmhmeoelpdaa
open Go.RowKit
open Geo (H3)

theorem sgn_div' {n d : Int} (hd : 0 < d) : n / (Int.gcd n d : Int) = sgnR n d ∧ d / (Int.gcd n d : Int) = (botR n d : Int) ∧ n.tdiv (Int.gcd n d : Int) = sgnR n d ∧ sgnR n d * (Int.gcd n d : Int) = n ∧ (botR n d : Int) * (Int.gcd n d : Int) = d := by
  have hg : 0 < Int.gcd n d := Nat.gcd_pos_of_pos_right _ (by omega)
  obtain ⟨k, hk⟩ := Int.gcd_dvd_left (a := n) (b := d)
  obtain ⟨m, hm⟩ := Int.gcd_dvd_right (a := n) (b := d)
  unfold sgnR topR botR
  generalize Int.gcd n d = g at *
  have hg' : (0 : Int) < g := by omega
  have e1 : n / (g : Int) = k := by rw [hk]; exact Int.mul_ediv_cancel_left _ (by omega)
  have e2 : d / (g : Int) = m := by rw [hm]; exact Int.mul_ediv_cancel_left _ (by omega)
  have e3 : n.tdiv (g : Int) = k := by rw [hk]; exact Int.mul_tdiv_cancel_left _ (by omega)
  have hm0 : 0 ≤ m := by
    rcases Int.lt_or_le m 0 with q | q
    · have := Int.mul_neg_of_pos_of_neg hg' q; omega
    · exact q
  have e4 : ((d.natAbs / g : Nat) : Int) = m := by
    rw [hm, Int.natAbs_mul, Int.natAbs_natCast, Nat.mul_div_cancel_left _ hg]; omega
  have e5 : n.natAbs / g = k.natAbs := by
    rw [hk, Int.natAbs_mul, Int.natAbs_natCast, Nat.mul_div_cancel_left _ hg]
  have hs : (if (decide (n < 0) != decide (d < 0)) = true then -((n.natAbs / g : Nat) : Int) else ((n.natAbs / g : Nat) : Int)) = k := by
    rw [e5, decide_eq_false (show ¬ d < 0 by omega)]
    by_cases q : n < 0
    · have : k < 0 := by
        rcases Int.lt_or_le k 0 with r | r
        · exact r
        · have := Int.mul_nonneg (Int.le_of_lt hg') r; omega
      simp [q]; omega
    · have : 0 ≤ k := by
        rcases Int.lt_or_le k 0 with r | r
        · have := Int.mul_neg_of_pos_of_neg hg' r; omega
        · exact r
      simp [q]; omega
  refine ⟨e1.trans hs.symm, e2.trans e4.symm, e3.trans hs.symm, ?_, ?_⟩
  · rw [hs, hk, Int.mul_comm]
  · rw [e4, hm, Int.mul_comm]
/-- a picked input lies in its span -/
theorem pin_in {a b c d : Int} (h : spnB a b c d = true) (wish : Int) : ispB a b c d (pinP a b c d wish).1 (pinP a b c d wish).2 = true := by
  obtain ⟨o1, o2, le⟩ := spn_iff.1 h
  have i1 := cei_in o1
  have i2 := flo_in o2
  by_cases l : ceiR a b ≤ floR c d
  · rw [pin_b h rfl l]
    have h1 : ceiR a b ≤ min (max (clpI wish (-1000) 1000) (ceiR a b)) (floR c d) := by omega
    have h2 : min (max (clpI wish (-1000) 1000) (ceiR a b)) (floR c d) ≤ floR c d := by omega
    simp only
    generalize min (max (clpI wish (-1000) 1000) (ceiR a b)) (floR c d) = v at *
    exact isp_iff.2 ⟨h, (one_of (n := v) (by omega)).2.2, by have := (cei_le o1).1 h1; omega, by have := (flo_ge o2).1 h2; omega⟩
  · rw [pin_a h rfl (by omega)]
    have hb : -1000 ≤ clpI wish (-1000) 1000 ∧ clpI wish (-1000) 1000 ≤ 1000 := by unfold clpI; omega
    generalize clpI wish (-1000) 1000 = n at *
    have om := maxF_ge (k := 1) (m := 0) (one_ok hb) o1 (by omega)
    have pm := okR_pos om.1
    have ge := ((maxF_ge (k := (maxP n 1 a b).2) (m := (maxP n 1 a b).1) (one_ok hb) o1 (by omega)).2.1 (Int.le_refl _)).2
    generalize (maxP n 1 a b).1 = x at *
    generalize (maxP n 1 a b).2 = y at *
    unfold minP
    rw [if_pos ⟨om.1, o2⟩]
    by_cases q : cmpR x y c d ≤ 0
    · rw [if_pos q]
      exact isp_iff.2 ⟨h, om.1, ge, cmp_0.1 q⟩
    · rw [if_neg q]
      exact isp_iff.2 ⟨h, o2, le, Int.le_refl _⟩
theorem meet_in {a b c d p q r s n m : Int} (h : mspB a b c d p q r s = true) (on : okR n m = true) : ispB (maxP a b p q).1 (maxP a b p q).2 (minP c d r s).1 (minP c d r s).2 n m = (ispB a b c d n m && ispB p q r s n m) := by
  have h' := h
  unfold mspB at h'
  rw [Bool.and_eq_true, Bool.and_eq_true] at h'
  obtain ⟨⟨s1, s2⟩, s3⟩ := h'
  obtain ⟨o1, o2, _⟩ := spn_iff.1 s1
  obtain ⟨o3, o4, _⟩ := spn_iff.1 s2
  have pm := okR_pos on
  have mx := (maxF_ge (k := m) (m := n) o1 o3 (by omega)).2
  have mn := (minF_le (k := m) (m := n) o2 o4 (by omega)).2
  rw [Bool.eq_iff_iff, Bool.and_eq_true, isp_iff, isp_iff, isp_iff, mx, mn]
  constructor
  · rintro ⟨_, _, ⟨x1, x2⟩, y1, y2⟩
    exact ⟨⟨s1, on, x1, y1⟩, s2, on, x2, y2⟩
  · rintro ⟨⟨_, _, x1, y1⟩, _, _, x2, y2⟩
    exact ⟨s3, on, ⟨x1, x2⟩, y1, y2⟩
theorem meet_no {a b c d p q r s n m : Int} (h : mspB a b c d p q r s = false) (k : ispB a b c d n m = true) (l : ispB p q r s n m = true) : False := by
  obtain ⟨s1, on, x1, y1⟩ := isp_iff.1 k
  obtain ⟨s2, _, x2, y2⟩ := isp_iff.1 l
  obtain ⟨o1, o2, _⟩ := spn_iff.1 s1
  obtain ⟨o3, o4, _⟩ := spn_iff.1 s2
  have pm := okR_pos on
  have mx := maxF_ge (k := m) (m := n) o1 o3 (by omega)
  have mn := minF_le (k := m) (m := n) o2 o4 (by omega)
  have s3 := spn_iff.2 ⟨mx.1, mn.1, fr_trans (okR_pos mx.1) pm (okR_pos mn.1) (mx.2.2 ⟨x1, x2⟩) (mn.2.2 ⟨y1, y2⟩)⟩
  unfold mspB at h
  rw [s1, s2, s3] at h
  cases h
/-- a whole input of the span: the picked one is whole, and at least as near to the wish -/
theorem pin_near {a b c d wish n : Int} (h : spnB a b c d = true) (hw : -1000 ≤ wish ∧ wish ≤ 1000) (hn : -1000 ≤ n ∧ n ≤ 1000) (k : ispB a b c d n 1 = true) : (pinP a b c d wish).2 = 1 ∧ ¬ (max (n - wish) (wish - n) < max ((pinP a b c d wish).1 - wish) (wish - (pinP a b c d wish).1)) := by
  obtain ⟨l1, l2⟩ := (isp_one h hn).1 k
  have e : clpI wish (-1000) 1000 = wish := by unfold clpI; omega
  rw [pin_b h rfl (by omega), e]
  refine ⟨rfl, ?_⟩
  simp only
  generalize ceiR a b = u at *
  generalize floR c d = v at *
  omega
theorem who_pin {a b c d wish : Int} (h : spnB a b c d = true) : 0 ≤ whoP a b c d ∧ (whoP a b c d = 0 ∨ (pinP a b c d wish).2 = 1) := by
  by_cases l : ceiR a b ≤ floR c d
  · rw [pin_b h rfl l]
    refine ⟨?_, .inr rfl⟩
    unfold whoP
    split <;> omega
  · have : whoP a b c d = 0 := by
      unfold whoP
      split <;> omega
    exact ⟨by omega, .inl this⟩
/-- a drawn span -/
def SpanF (a b c d : Int) : Prop := spnB a b c d = true ∧ (-1000 ≤ a ∧ a ≤ 1000) ∧ (1 ≤ b ∧ b ≤ 1000) ∧ (-1000 ≤ c ∧ c ≤ 1000) ∧ 1 ≤ d ∧ d ≤ 1000
theorem of_small {n d : Int} (hn : -1000 ≤ n ∧ n ≤ 1000) (hd : 1 ≤ d ∧ d ≤ 12) : okR (ofN n d) (ofD n d) = true ∧ ofN n d * d = n * ofD n d ∧ (-1000 ≤ ofN n d ∧ ofN n d ≤ 1000) ∧ ofD n d ≤ 12 := by
  have hg : 0 < Int.gcd n d := Nat.gcd_pos_of_pos_right _ (by omega)
  have tb : topR n d ≤ n.natAbs := Nat.div_le_self _ _
  have bb : botR n d ≤ d.natAbs := Nat.div_le_self _ _
  have hR : hasR n d = true := by
    rw [hasR_iff]
    exact ⟨by omega, by omega, by omega⟩
  have sa := sgn_abs n d
  have eN : ofN n d = sgnR n d := by unfold ofN; rw [if_pos hR]
  have eD : ofD n d = (botR n d : Int) := by unfold ofD; rw [if_pos hR]
  obtain ⟨_, _, _, s4, s5⟩ := sgn_div' (n := n) (d := d) (by omega)
  have g1 : Int.gcd (sgnR n d) (botR n d) = 1 := by
    have h1 : (Int.gcd n d : Int) ∣ n := Int.gcd_dvd_left ..
    have h2 : (Int.gcd n d : Int) ∣ d := Int.gcd_dvd_right ..
    have := Int.gcd_ediv_gcd_ediv_gcd (i := n) (j := d) hg
    obtain ⟨q1, q2, _⟩ := sgn_div' (n := n) (d := d) (by omega)
    rw [q1, q2] at this
    exact this
  have b1 : 1 ≤ (botR n d : Int) := by
    rcases Int.lt_or_le (botR n d : Int) 1 with z | z
    · have : (botR n d : Int) = 0 := by omega
      rw [this, Int.zero_mul] at s5
      omega
    · exact z
  rw [eN, eD]
  refine ⟨(okR_iff _ _).2 ⟨b1, by omega, by omega, by omega, g1⟩, ?_, ⟨by omega, by omega⟩, by omega⟩
  have : sgnR n d * d = sgnR n d * ((botR n d : Int) * (Int.gcd n d : Int)) := by rw [s5]
  rw [this]
  have : n * (botR n d : Int) = sgnR n d * (Int.gcd n d : Int) * (botR n d : Int) := by rw [s4]
  rw [this]
  grind
theorem span_of {N D x : Int} (h : Small N D) (hx : 0 ≤ x ∧ x ≤ 59) : SpanF N D (ofN (N + x) D) (ofD (N + x) D) := by
  obtain ⟨ok, n1, n2, d1, d2⟩ := h
  obtain ⟨o, e, b1, b2⟩ := of_small (n := N + x) (d := D) (by omega) (by omega)
  have p := okR_pos o
  refine ⟨spn_iff.2 ⟨ok, o, ?_⟩, by omega, by omega, b1, by omega, by omega⟩
  rw [e]
  exact Int.mul_le_mul_of_nonneg_right (by omega) (by omega)
/-- a drawn span, out of new memory alone -/
def MadeSp (w : World) (e : Ending) (w' : World) : Prop := ∃ a b c d : Int, SpanF a b c d ∧ e = .returned (.agg #[.int .i64 a, .int .i64 b, .int .i64 c, .int .i64 d]) ∧ Below w.heap.size w w'
theorem blk_drawn {W X : World} {B g len cap : Nat} {a : Option Addr} {cs : Array Value} {t : TypeId} (h : Blk W B cs t) (hd : Drawn g a len cap W X) (n : B ≠ g) : Blk X B cs t := (hd.1.block B h.lt (fun e => n (by cases e; rfl))).trans h
theorem two_c {W : World} {B : Nat} {x y : Value} {T : TypeId} (h : Blk W B #[x, y] T) : W.cell? ⟨B, 0, none⟩ = some x ∧ W.cell? ⟨B, 1, none⟩ = some y := ⟨h.cell0 rfl, h.cell0 rfl⟩
theorem far4 {W : World} {B C : Nat} {t : TypeId} {cs : Array Value} (h : Blk W C cs t) (n : B ≠ C) (u v x y : Value) : Blk ((((W.setCell ⟨B, 0, none⟩ u).setCell ⟨B, 1, none⟩ v).setCell ⟨B, 2, none⟩ x).setCell ⟨B, 3, none⟩ y) C cs t :=
  blk_far (blk_far (blk_far (blk_far h (p := ⟨B, 0, none⟩) u n) (p := ⟨B, 1, none⟩) v n) (p := ⟨B, 2, none⟩) x n) (p := ⟨B, 3, none⟩) y n
theorem bel_draw {w0 W X : World} {g len cap : Nat} {a : Option Addr} (b : Below w0.heap.size w0 W) (hg : w0.heap.size ≤ g) (hd : Drawn g a len cap W X) : Below w0.heap.size w0 X := b.grown hd.1 b.size (fun p hp => by cases hp; exact hg)
theorem small_wrap {N D x : Int} (h : Small N D) (hx : 0 ≤ x ∧ x ≤ 60 - 1) : IntKind.i64.wrap (N + x) = N + x := IntWalk.i64_in _ (by have := h.2; omega)
theorem small_of' {N D x : Int} (h : Small N D) (hx : 0 ≤ x ∧ x ≤ 60 - 1) (V : World) : Calls Try.prog 39 #[.int .i64 (N + x), .int .i64 D] V fun e w' => e = .returned (.agg #[.int .i64 (ofN (N + x) D), .int .i64 (ofD (N + x) D)]) ∧ Below V.heap.size V w' := by
  obtain ⟨_, h1, h2, h3, h4⟩ := h
  exact spec_ofA (N + x) D V (by omega) (by omega) (by omega) (by omega)
set_option maxHeartbeats 400000 in
theorem make_span (w : World) (a : Option Addr) (len cap n : Nat) (hn : n ≤ 1000000) (hl : len ≤ 1048576) (hB : BytesAt w a len) : Calls Try.prog 30 #[.slice a len cap, .int .i64 n] w (MadeSp w) := by
  have b0 := below_one w (.cells #[.int .i64 0, .int .i64 0, .int .i64 0, .int .i64 0] 29)
  have K0 := blk_new w #[.int .i64 0, .int .i64 0, .int .i64 0, .int .i64 0] 29 rfl
  have HB := Lib.hid (hB.below b0)
  clear hB
  go_enter Try.func30, Try.ntmps30
  go_wp2_with fail
  have hz : (w.alloc (.cells #[.int .i64 0, .int .i64 0, .int .i64 0, .int .i64 0] 29)).heap.size = w.heap.size + 1 := by simp
  generalize w.alloc (.cells #[.int .i64 0, .int .i64 0, .int .i64 0, .int .i64 0] 29) = U at *
  refine (new26 U a len cap n hn hl HB.out).mono ?_
  rintro e w1 ⟨g, rfl, hg, hs, hb⟩
  have HS := Lib.hid hs
  clear hs
  go_wp2_with fail
  refine (draw_ratio HS.out).mono ?_
  rintro e w2 ⟨N, D, hsm, rfl, hd⟩
  have g2 : g < w2.heap.size := by obtain ⟨⟨_, _, hq, _⟩, _⟩ := HS.out.drawn hd; exact lt_of_block hq
  have HS2 := (HS.out.drawn hd).alloc (.cells #[.int .i64 N, .int .i64 D] 27)
  have hb2 := below_drawn hb hg hd
  have bN := below_one w2 (.cells #[.int .i64 N, .int .i64 D] 27)
  have b3 := below_to b0 (below_to hb2 bN)
  have A0 := K0.to (below_to hb2 bN)
  have R0 := blk_new w2 #[.int .i64 N, .int .i64 D] 27 rfl
  have HM := Lib.hid hsm
  clear hsm hd HS hb K0
  go_upto_region 3 with fail
  generalize w2.alloc (.cells #[.int .i64 N, .int .i64 D] 27) = W at *
  obtain ⟨rb, hrb⟩ : ∃ b, w2.heap.size = b := ⟨_, rfl⟩
  rw [hrb] at R0 g2 ⊢
  clear hrb
  have bd : Below W.heap.size W W.drew := below_drw (Below.refl _ _)
  have SD := HS2.drawn (drawn_below HS2.1 bd)
  have R0D := R0.to bd
  have A0D := A0.to bd
  have BD := below_to b3 bd
  have n0 : w.heap.size ≠ g := by omega
  have n2 : rb ≠ g := by omega
  have n4 : w.heap.size ≤ g := by omega
  have n5 : w.heap.size ≠ rb := by have := A0.lt; have := b0.size; omega
  have r0 := R0.cell0 (i := 0) (v := .int .i64 N) rfl
  have r1 := R0.cell0 (i := 1) (v := .int .i64 D) rfl
  skip
  go_region_held3 (fun w' => w'.cell? ⟨rb, 0, none⟩ = some (.int .i64 N) ∧ w'.cell? ⟨rb, 1, none⟩ = some (.int .i64 D))
    (first | (with_reducible exact two_c (far4 R0B n5 _ _ _ _)) | (with_reducible exact two_c R0B) | (with_reducible exact two_c R0A) | (with_reducible exact two_c R0D) | (with_reducible exact two_c R0))
    (first | (go_at_call 63; (with_reducible refine (below_cur 60 SD (by omega) (by omega)).mono ?_); rintro e wA ⟨x, hx, rfl, hdA⟩; have e1 : IntKind.i64.wrap (N + x) = N + x := small_wrap HM.out hx; have R0A := blk_drawn R0D hdA n2; have A0A := blk_drawn A0D hdA n0; have BA := bel_draw BD n4 hdA; have r0 := R0A.cell0 (i := 0) (v := .int .i64 N) rfl; have r1 := R0A.cell0 (i := 1) (v := .int .i64 D) rfl; have HOF := Lib.hid (small_of' HM.out hx); have HSF := Lib.hid (span_of HM.out ⟨hx.1, by omega⟩); obtain ⟨c, hc⟩ : ∃ c, ofN (N + x) D = c := ⟨_, rfl⟩; obtain ⟨d, hd⟩ : ∃ c, ofD (N + x) D = c := ⟨_, rfl⟩; simp only [hc, hd] at HOF HSF; clear hc hd) | (go_at_call 39; (with_reducible refine (HOF.out _).mono ?_); rintro e wB ⟨rfl, blB⟩; have R0B := R0A.to blB; have A0B := A0A.to blB; have BB := below_to BA blB; have r0 := R0B.cell0 (i := 0) (v := .int .i64 N) rfl; have r1 := R0B.cell0 (i := 1) (v := .int .i64 D) rfl; have z0 := A0B.cell0 (i := 0) (v := .int .i64 0) rfl; have z1 := A0B.cell0 (i := 1) (v := .int .i64 0) rfl; have z2 := A0B.cell0 (i := 2) (v := .int .i64 0) rfl; have z3 := A0B.cell0 (i := 3) (v := .int .i64 0) rfl; have f0 := A0B.free 0; have f1 := A0B.free 1; have f2 := A0B.free 2; have f3 := A0B.free 3))
  all_goals
    go_wp2_with fail
    exact bodyPost_ret (v := .agg #[.int .i64 N, .int .i64 D, .int .i64 c, .int .i64 d]) (by simp [results, Try.results30, go_sem, z0, z1, z2, z3]) rfl ⟨_, _, _, _, HSF.out, rfl, ((((BB.setCell (p := ⟨w.heap.size, 0, none⟩) (Nat.le_refl _) (.int .i64 N)).setCell (p := ⟨w.heap.size, 1, none⟩) (Nat.le_refl _) (.int .i64 D)).setCell (p := ⟨w.heap.size, 2, none⟩) (Nat.le_refl _) (.int .i64 c)).setCell (p := ⟨w.heap.size, 3, none⟩) (Nat.le_refl _) (.int .i64 d))⟩
end Go.Proofs.Ytibkmhmeoelpdaa
