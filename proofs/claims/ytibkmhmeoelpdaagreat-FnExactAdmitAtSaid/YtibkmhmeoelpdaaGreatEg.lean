/- ErodeRegion of the program over the translation. GrowAlong: the half planes that touch a region, and the move of an edge, of the program over the translation. -/
import Derived.Test.YtibkmhmeoelpdaaGreatMz
import Derived.Test.YtibkmhmeoelpdaaGreatMw
import Derived.Test.YtibkmhmeoelpdaaGreatFg
namespace Go.Proofs.YtibkmhmeoelpdaaGreat
open Go.RowKit Go.Shelf
open Geo (H3)
theorem er_cop {C N D : Int} (g : Int.gcd N D = 1) : Int.gcd (C * D - N) D = 1 := by
  have h1 : ((Int.gcd (C * D - N) D : Nat) : Int) ∣ D := Int.gcd_dvd_right ..
  have h2 : ((Int.gcd (C * D - N) D : Nat) : Int) ∣ C * D - N := Int.gcd_dvd_left ..
  have h3 : ((Int.gcd (C * D - N) D : Nat) : Int) ∣ N := by
    have h4 := Int.dvd_sub (Int.dvd_trans h1 (Int.dvd_mul_left C D)) h2
    rwa [show C * D - (C * D - N) = N by omega] at h4
  have h5 : Int.gcd (C * D - N) D ∣ Int.gcd N D := Int.dvd_gcd h3 h1
  rw [g] at h5
  exact Nat.dvd_one.1 h5
theorem cop_dvd {G : Nat} {A D : Int} (h : (G : Int) ∣ A * D) (c : Int.gcd (G : Int) D = 1) : (G : Int) ∣ A := by
  have h' := Int.natAbs_dvd_natAbs.2 h
  rw [Int.natAbs_mul, Int.natAbs_natCast] at h'
  exact Int.natAbs_dvd_natAbs.1 (by rw [Int.natAbs_natCast]; exact Nat.Coprime.dvd_of_dvd_mul_right (show Nat.Coprime G D.natAbs from c) h')
theorem er_big {A B C N D : Int} (g : Int.gcd N D = 1) (hD : 50000 < D) (hAB : A ≠ 0 ∨ B ≠ 0) : hasH (A * D) (B * D) (C * D - N) = false := by
  cases hx : hasH (A * D) (B * D) (C * D - N) with
  | false => rfl
  | true =>
    unfold hasH at hx
    rw [Bool.and_eq_true] at hx
    obtain ⟨a1, a2, b1, b2, _⟩ := (okH_iff _ _ _).1 hx.2
    have gp : 0 < gS (A * D) (B * D) (C * D - N) := by
      unfold gS
      refine Nat.pos_of_ne_zero fun e => ?_
      have e1 := (Int.gcd_eq_zero_iff.1 e).1
      have e2 := Int.gcd_eq_zero_iff.1 (by exact_mod_cast e1)
      rcases hAB with h | h
      · exact absurd e2.1 (Int.mul_ne_zero h (by omega))
      · exact absurd e2.2 (Int.mul_ne_zero h (by omega))
    have d1 : ((gS (A * D) (B * D) (C * D - N) : Nat) : Int) ∣ ((Int.gcd (A * D) (B * D) : Nat) : Int) := Int.gcd_dvd_left ..
    have d2 : ((gS (A * D) (B * D) (C * D - N) : Nat) : Int) ∣ C * D - N := Int.gcd_dvd_right ..
    have dA := Int.dvd_trans d1 (Int.gcd_dvd_left (a := A * D) (b := B * D))
    have dB := Int.dvd_trans d1 (Int.gcd_dvd_right (a := A * D) (b := B * D))
    generalize gS (A * D) (B * D) (C * D - N) = G at *
    have cG : Int.gcd (G : Int) D = 1 := by
      have x1 : ((Int.gcd (G : Int) D : Nat) : Int) ∣ D := Int.gcd_dvd_right ..
      have x2 := Int.dvd_trans (Int.gcd_dvd_left (a := (G : Int)) (b := D)) d2
      have x3 : Int.gcd (G : Int) D ∣ Int.gcd (C * D - N) D := Int.dvd_gcd x2 x1
      rw [er_cop g] at x3
      exact Nat.dvd_one.1 x3
    obtain ⟨a', ha⟩ := cop_dvd dA cG
    obtain ⟨b', hb⟩ := cop_dvd dB cG
    rw [ha, Int.mul_assoc, Int.mul_tdiv_cancel_left _ (by omega)] at a1 a2
    rw [hb, Int.mul_assoc, Int.mul_tdiv_cancel_left _ (by omega)] at b1 b2
    have z : ∀ x : Int, -50000 ≤ x * D → x * D ≤ 50000 → x = 0 := by
      intro x h1 h2
      rcases Int.lt_trichotomy x 0 with h | h | h
      · have := Int.mul_le_mul_of_nonneg_right (show x ≤ -1 by omega) (show 0 ≤ D by omega); omega
      · exact h
      · have := Int.mul_le_mul_of_nonneg_right (show 1 ≤ x by omega) (show 0 ≤ D by omega); omega
    have za := z _ a1 a2
    have zb := z _ b1 b2
    subst za; subst zb
    omega
/-- the greatest value of the other region in an edge's direction -/
noncomputable def erN (qs : List H3) (h : H3) : Int := (farS h.a h.b qs qs.length).2.1
noncomputable def erD (qs : List H3) (h : H3) : Int := (farS h.a h.b qs qs.length).2.2
noncomputable def erB (qs : List H3) (h : H3) : Bool := hasH (h.a * erD qs h) (h.b * erD qs h) (h.c * erD qs h - erN qs h)
noncomputable def erM (qs : List H3) (h : H3) : H3 := redH (h.a * erD qs h) (h.b * erD qs h) (h.c * erD qs h - erN qs h)
theorem er_ok (qs : List H3) (h : H3) (k : erB qs h = true) : okB (erM qs h) = true := red_ok k
theorem ok_in {h : H3} (k : okB h = true) : In5 h.a ∧ In5 h.b ∧ (-100000000 ≤ h.c ∧ h.c ≤ 100000000) ∧ (h.a ≠ 0 ∨ h.b ≠ 0) ∧ inB h.a (-50000) 50000 = true ∧ inB h.b (-50000) 50000 = true := by
  obtain ⟨a1, a2, b1, b2, n, c1, c2, _⟩ := (okH_iff _ _ _).1 k
  exact ⟨⟨a1, a2⟩, ⟨b1, b2⟩, ⟨c1, c2⟩, n, by unfold inB; simp [a1, a2], by unfold inB; simp [b1, b2]⟩
theorem er_in {qs : List H3} {h : H3} (hq : rokB qs = true) (ne : qs ≠ []) (k : okB h = true) :
    (-250000000000000 ≤ h.a * erD qs h ∧ h.a * erD qs h ≤ 250000000000000) ∧ (-250000000000000 ≤ h.b * erD qs h ∧ h.b * erD qs h ≤ 250000000000000) ∧ (-500000000000000000 ≤ h.c * erD qs h ∧ h.c * erD qs h ≤ 500000000000000000) ∧ (-500000000000000000 ≤ erN qs h ∧ erN qs h ≤ 500000000000000000) ∧ (1 ≤ erD qs h ∧ erD qs h ≤ 5000000000) ∧ Int.gcd (erN qs h) (erD qs h) = 1 ∧ supR h.a h.b qs = farS h.a h.b qs qs.length := by
  obtain ⟨⟨a1, a2⟩, ⟨b1, b2⟩, ⟨c1, c2⟩, _, i1, i2⟩ := ok_in k
  obtain ⟨_, e, q, _, ⟨n1, n2⟩, d1, d2⟩ := sup_of rfl hq ne i1 i2
  obtain ⟨o1, _, _, _, o5⟩ := (okR_iff _ _).1 q
  have m1 := mul_in h.a (erD qs h) 50000 5000000000 a1 a2 (by unfold erD; omega) d2
  have m2 := mul_in h.b (erD qs h) 50000 5000000000 b1 b2 (by unfold erD; omega) d2
  have m3 := mul_in h.c (erD qs h) 100000000 5000000000 c1 c2 (by unfold erD; omega) d2
  exact ⟨by omega, by omega, by omega, ⟨n1, n2⟩, ⟨o1, d2⟩, o5, e⟩
set_option maxHeartbeats 1600000 in
/-- the program's move of an edge -/
theorem er_call (p : Nat) (b : Option Addr) (m cb : Nat) (qs : List H3) (h : H3) (w : World) (hl : qs.length = m) (hm : m ≤ 1048576) (h64 : ∀ h ∈ qs, In64 h) (hq : rokB qs = true) (ne : qs ≠ []) (k : okB h = true) (hA : HsAt w b qs) (c1 : w.cell? ⟨p, 0, none⟩ = some (.slice b m cb)) :
    Calls Tryz.prog 138 #[.agg #[.int .i64 h.a, .int .i64 h.b, .int .i64 h.c], .pointer (some ⟨p, 0, none⟩)] w fun e w' => e = .returned (.tuple #[.agg #[.int .i64 (erM qs h).a, .int .i64 (erM qs h).b, .int .i64 (erM qs h).c], .bool (erB qs h)]) ∧ Below w.heap.size w w' := by
  obtain ⟨⟨m1, m2⟩, ⟨m3, m4⟩, ⟨m5, m6⟩, ⟨n1, n2⟩, ⟨d1, d2⟩, _, es⟩ := er_in hq ne k
  have HH := Lib.hid (fun W => impl_hof (h.a * erD qs h) (h.b * erD qs h) (h.c * erD qs h - erN qs h) W (by omega) (by omega) (by omega) (by omega) (by omega) (by omega))
  rw [ans_red, show hasH (h.a * erD qs h) (h.b * erD qs h) (h.c * erD qs h - erN qs h) = erB qs h from rfl, show redH (h.a * erD qs h) (h.b * erD qs h) (h.c * erD qs h - erN qs h) = erM qs h from rfl] at HH
  have HS := Lib.hid (fun V (hb : Below w.heap.size w V) => impl_sup b m cb qs h.a h.b V hl hm h64 (hA.below hb))
  rw [es, show (farS h.a h.b qs qs.length).2.1 = erN qs h from rfl, show (farS h.a h.b qs qs.length).2.2 = erD qs h from rfl] at HS
  clear es hl hA h64 hq ne k
  generalize supB h.a h.b qs = r0 at *
  generalize erB qs h = r at *
  generalize erM qs h = s at *
  generalize erN qs h = N at *
  generalize erD qs h = D at *
  obtain ⟨xa, xb, xc⟩ := h
  obtain ⟨sa, sb, sc⟩ := s
  simp only at HH HS m1 m2 m3 m4 m5 m6 ⊢
  have l1 := block_lt_of_cell c1
  simp only at l1
  have bV := below_bx2 (below_one w (.cells #[.int .i64 xa, .int .i64 xb, .int .i64 xc] 104)) (.cells #[.int .i64 0, .int .i64 0, .int .i64 0] 104)
  have e1 := cell_to c1 bV
  have T0 := has3_new (w.alloc (.cells #[.int .i64 xa, .int .i64 xb, .int .i64 xc] 104)) (.int .i64 0) (.int .i64 0) (.int .i64 0) 104
  rw [show (w.alloc (.cells #[.int .i64 xa, .int .i64 xb, .int .i64 xc] 104)).heap.size = w.heap.size + 1 by simp] at T0
  have T1 := has3_to (below_one (w.alloc (.cells #[.int .i64 xa, .int .i64 xb, .int .i64 xc] 104)) (.cells #[.int .i64 0, .int .i64 0, .int .i64 0] 104)) (has3_new w (.int .i64 xa) (.int .i64 xb) (.int .i64 xc) 104)
  go_enter Tryz.func138, Tryz.ntmps138
  go_wp2_with fail
  generalize (w.alloc (.cells #[.int .i64 xa, .int .i64 xb, .int .i64 xc] 104)).alloc (.cells #[.int .i64 0, .int .i64 0, .int .i64 0] 104) = V at *
  refine (HS.out _ bV).mono ?_
  rintro e w1 ⟨rfl, bl1⟩
  have b1 := below_to bV bl1
  have bX := below_bx2 b1 (.cells #[.int .i64 N, .int .i64 D] 33)
  obtain ⟨t1, t2, t3, f1, f2, f3⟩ := has3_to (below_one w1 (.cells #[.int .i64 N, .int .i64 D] 33)) (has3_to bl1 T1)
  have T2 := has3_to (below_one w1 (.cells #[.int .i64 N, .int .i64 D] 33)) (has3_to bl1 T0)
  obtain ⟨v1, v2, _, _⟩ := two_new w1 (.int .i64 N) (.int .i64 D) 33
  clear bl1 HS e1 T0 T1 bV b1
  generalize eu1 : xa * D = u1 at *
  generalize eu2 : xb * D = u2 at *
  generalize eu3 : xc * D = u3 at *
  go_wp2_with fail
  refine (HH.out _).mono ?_
  rintro e w2 ⟨rfl, bl2⟩
  have b3 := below_to bX bl2
  obtain ⟨t1, t2, t3, f1, f2, f3⟩ := has3_to bl2 T2
  clear bl2 HH T2
  go_wp2_with fail
  exact bodyPost_ret (v := .tuple #[.agg #[.int .i64 sa, .int .i64 sb, .int .i64 sc], .bool r]) (by simp [results, Tryz.results138, go_sem, t1, t2, t3]) rfl ⟨rfl, ((b3.setCell (p := ⟨w.heap.size + 1, 0, none⟩) (by simp) _).setCell (p := ⟨w.heap.size + 1, 1, none⟩) (by simp) _).setCell (p := ⟨w.heap.size + 1, 2, none⟩) (by simp) _⟩
/-- what ErodeRegion answers -/
noncomputable def eroB (ps qs : List H3) : Bool := rokB ps && rokB qs && decide (qs ≠ []) && mvB (erB qs) (erM qs) [] ps
noncomputable def eroL (ps qs : List H3) : List H3 := if rokB ps = true ∧ rokB qs = true ∧ qs ≠ [] then mvL (erB qs) (erM qs) [] ps else []
theorem ero_no {ps qs : List H3} (h : rokB ps = false ∨ rokB qs = false ∨ qs = []) : eroL ps qs = [] ∧ eroB ps qs = false := by
  refine ⟨?_, ?_⟩
  · unfold eroL; rw [if_neg]; rintro ⟨a, b, c⟩; rcases h with h | h | h <;> simp_all
  · unfold eroB; rcases h with h | h | h <;> simp [h]
theorem ero_yes {ps qs : List H3} (h1 : rokB ps = true) (h2 : rokB qs = true) (h3 : qs ≠ []) : eroL ps qs = mvL (erB qs) (erM qs) [] ps ∧ eroB ps qs = mvB (erB qs) (erM qs) [] ps :=
  ⟨if_pos ⟨h1, h2, h3⟩, by unfold eroB; rw [h1, h2, decide_eq_true h3]; simp⟩

/-- an edge that is grown along a way -/
def slp (bx by' : Int) (h : H3) : Int := h.a * bx + h.b * by'
end Go.Proofs.YtibkmhmeoelpdaaGreat
