/- The contract of the model's ParseSpot at every text, and the walk of ParseSpot's law, over the translation. -/
import Derived.Test.YtbdehelcpfkcmaaDoorSps3
namespace Go.Proofs.YtbdehelcpfkcmaaDoor
open Go.RowKit

set_option maxHeartbeats 1600000 in
theorem ss_len (s : ByteArray) (xs : List ByteArray) (hL : ((xs.length : Int) == 2) = false) (w : World)
    (HS : Hid (∀ W, Calls Tryd.prog 36 #[.string s, .string ⟨#[44]⟩] W fun e w' => ∃ g cap, e = .returned (.slice (some ⟨g, 0, none⟩) xs.length cap) ∧ (∀ (j : Nat) u, xs[j]? = some u → w'.cell? ⟨g, j, none⟩ = some (.string u)) ∧ Below W.heap.size W w')) :
    Calls Tryd.prog 17 #[.string s] w fun e w' => e = .returned (.tuple #[.agg #[.int .i64 0, .int .i64 0, .int .i64 0], .bool false]) ∧ Below w.heap.size w w' := by
  have H0 := has3_new w (.int .i64 0) (.int .i64 0) (.int .i64 0) 24
  have h0 := below_box w (.cells #[.int .i64 0, .int .i64 0, .int .i64 0] 24)
  generalize xs.length = n at *
  go_enter Tryd.func17, Tryd.ntmps17
  go_wp2_with fail
  refine (HS.out _).mono ?_
  rintro e w1 ⟨g, cap, rfl, hcs, bl1⟩
  have h1 := below_to h0 bl1
  obtain ⟨r0, r1, r2, f0, f1, f2⟩ := has3_to bl1 H0
  clear hcs bl1 H0 h0
  go_wp2_with fail
  refine bodyPost_ret (v := .tuple #[.agg #[.int .i64 0, .int .i64 0, .int .i64 0], .bool false]) (by simp [results, Tryd.results17, go_sem, r0, r1, r2]) rfl ⟨rfl, ?_⟩
  exact below_set3 _ _ _ h1 (by omega)

theorem spec_ps2 (s p q : ByteArray) (n1 d1 n2 d2 : Int) (b1 b2 : Bool) (w : World)
    (hS : ∀ W, Calls Tryd.prog 36 #[.string s, .string ⟨#[44]⟩] W fun e w' => ∃ g cap, e = .returned (.slice (some ⟨g, 0, none⟩) 2 cap) ∧ (∀ (j : Nat) u, [p, q][j]? = some u → w'.cell? ⟨g, j, none⟩ = some (.string u)) ∧ Below W.heap.size W w')
    (hl : s.data.toList = p.data.toList ++ 44 :: q.data.toList) (hs : s.size ≤ 1048576) (r1 : RAns p.data.toList n1 d1 b1) (r2 : RAns q.data.toList n2 d2 b2) :
    Calls Tryd.prog 17 #[.string s] w fun e w' => e = .returned (twoS n1 d1 b1 n2 d2 b2) ∧ Below w.heap.size w w' := by
  have hsz := (ext_c 44 hl).2.2
  simp at hsz
  have p1 := fun W => spec_pr p n1 d1 b1 W (by omega) r1
  have p2 := fun W => spec_pr q n2 d2 b2 W (by omega) r2
  cases b1 with
  | false => exact ss_no1 s p q n1 d1 n2 d2 b2 w hS p1 p2
  | true =>
    cases b2 with
    | false => exact ss_no2 s p q n1 d1 n2 d2 w hS p1 p2
    | true =>
      obtain ⟨o1, t1⟩ := r1.ok
      obtain ⟨o2, t2⟩ := r2.ok
      rw [show twoS n1 d1 true n2 d2 true = parS n1 d1 n2 d2 from if_pos ⟨rfl, rfl⟩]
      obtain ⟨u1, a2, a3, a4, _⟩ := (okR_iff _ _).1 o1
      obtain ⟨u2, c2, c3, c4, _⟩ := (okR_iff _ _).1 o2
      by_cases k1 : d1 ≤ 5000000000
      · by_cases k2 : d2 ≤ 5000000000
        · obtain ⟨ha, hb, e4, _, y1, y2, e6, e7, hg, hg2, hwa, hwb⟩ := lc_facts u1 u2
          have hG := fun W => spec_gcd d1 d2 W (by omega) (by omega) (by omega) (by omega)
          rw [gcdR_of d1 d2 (by omega) (by omega)] at hG
          have tB : d1.tdiv (Int.gcd d1 d2 : Int) = wb d1 d2 := by rw [Int.tdiv_eq_ediv_of_nonneg (by omega)]; rfl
          have tR : (5000000000 : Int).tdiv d2 = 5000000000 / d2 := Int.tdiv_eq_ediv_of_nonneg (by omega)
          have hq := gt_iff (b := wb d1 d2) (M := 5000000000) (d := d2) (by omega)
          rw [e6] at hq
          have hQ : 0 ≤ 5000000000 / d2 := Int.ediv_nonneg (by omega) (by omega)
          have hQ2 : 5000000000 / d2 ≤ 5000000000 := Int.ediv_le_self _ (by omega)
          have v1 : IntKind.i64.wrap (wb d1 d2) = wb d1 d2 := IntWalk.i64_in _ (by omega)
          have v2 : IntKind.i64.wrap (5000000000 / d2) = 5000000000 / d2 := IntWalk.i64_in _ (by omega)
          have g0 : ((Int.gcd d1 d2 : Int) == 0) = false := eq_z (by omega)
          have d0 : (d2 == 0) = false := eq_z (by omega)
          by_cases hlc : lc d1 d2 ≤ 5000000000
          · have hnl : ¬ 5000000000 / d2 < wb d1 d2 := by rw [hq]; omega
            have hL0 : 1 ≤ lc d1 d2 := by
              rw [← e7]
              have : 1 * 1 ≤ wa d1 d2 * d1 := Int.mul_le_mul ha u1 (by omega) (by omega)
              omega
            by_cases i1 : -(1000 * d1) ≤ n1 ∧ n1 ≤ 1000 * d1
            · by_cases i2 : -(1000 * d2) ≤ n2 ∧ n2 ≤ 1000 * d2
              · have hf : fitB n1 d1 n2 d2 = true := (fitB_iff _ _ _ _).2 ⟨k1, k2, hlc, i1.1, i1.2, i2.1, i2.2⟩
                have hok := fit_ok o1 o2 hf
                rw [show parS n1 d1 n2 d2 = spotS (n1 * wa d1 d2) (n2 * wb d1 d2) (lc d1 d2) from if_pos hf]
                unfold spotS
                have w1 := wide_in e7 ha i1.1 i1.2
                have w2 := wide_in e6 hb i2.1 i2.2
                have hO := fun W => spec_sof (n1 * wa d1 d2) (n2 * wb d1 d2) (lc d1 d2) W (by omega) (by omega) (by omega) (by omega) (by omega) (by omega)
                rw [ans_low hok] at hO
                unfold spotS at hO
                have hF := fun W => spec_sf (n1 * wa d1 d2) (n2 * wb d1 d2) (lc d1 d2) W (by omega) (by omega) (by omega) (by omega) (by omega) (by omega)
                have ht : fmtS (n1 * wa d1 d2) (n2 * wb d1 d2) (lc d1 d2) = s.data.toList := by rw [fit_text o1 o2 hf, t1, t2, hl]
                exact ss_good s p q n1 d1 n2 d2 w hS p1 p2 k1 k2 u1 u2 _ (wa d1 d2) (wb d1 d2) _ g0 tB rfl rfl tR v1 v2 d0 (by omega) (by omega) hQ hQ2 hg (by omega) hG hnl (lc d1 d2) e6 hL0 hlc (in_neg (inB_yes i1.1 i1.2)) (in_neg (inB_yes i2.1 i2.2)) _ _ _ (by rw [Int.tdiv_eq_ediv_of_nonneg (by omega)]; exact y1) (by rw [Int.tdiv_eq_ediv_of_nonneg (by omega)]; exact y2) y1 y2 (by omega) (by omega) rfl rfl (by omega) (by omega) (by omega) (by omega) hO hF (same_t ht)
              · rw [show parS n1 d1 n2 d2 = zeroS from if_neg (by rw [fitB_iff]; omega)]
                exact ss_out2 s p q n1 d1 n2 d2 w hS p1 p2 k1 k2 u1 u2 _ (wa d1 d2) (wb d1 d2) _ g0 tB rfl rfl tR v1 v2 d0 (by omega) (by omega) hQ hQ2 hg (by omega) hG hnl (lc d1 d2) e6 hL0 hlc (in_neg (inB_yes i1.1 i1.2)) (in_neg (inB_no (by omega)))
            · rw [show parS n1 d1 n2 d2 = zeroS from if_neg (by rw [fitB_iff]; omega)]
              exact ss_out1 s p q n1 d1 n2 d2 w hS p1 p2 k1 k2 u1 u2 _ (wa d1 d2) (wb d1 d2) _ g0 tB rfl rfl tR v1 v2 d0 (by omega) (by omega) hQ hQ2 hg (by omega) hG hnl (lc d1 d2) e6 hL0 hlc (in_neg (inB_no (by omega)))
          · rw [show parS n1 d1 n2 d2 = zeroS from if_neg (by rw [fitB_iff]; omega)]
            have hnl : 5000000000 / d2 < wb d1 d2 := by rw [hq]; omega
            exact ss_lc s p q n1 d1 n2 d2 w hS p1 p2 k1 k2 u1 u2 _ (wa d1 d2) (wb d1 d2) _ g0 tB rfl rfl tR v1 v2 d0 (by omega) (by omega) hQ hQ2 hg (by omega) hG hnl
        · rw [show parS n1 d1 n2 d2 = zeroS from if_neg (by rw [fitB_iff]; omega)]
          exact ss_big2 s p q n1 d1 n2 d2 w hS p1 p2 k1 (by omega)
      · rw [show parS n1 d1 n2 d2 = zeroS from if_neg (by rw [fitB_iff]; omega)]
        exact ss_big1 s p q n1 d1 n2 d2 w hS p1 p2 (by omega)

/-- both ParseSpot functions answer the same at every text -/
theorem both_ps (s : ByteArray) (hs : s.size ≤ 1048576) : ∃ X Y D : Int, ∃ B : Bool,
    (∀ W, Calls Tryd.prog 17 #[.string s] W fun e w' => e = .returned (.tuple #[.agg #[.int .i64 X, .int .i64 Y, .int .i64 D], .bool B]) ∧ Below W.heap.size W w') ∧
    (∀ W, Vars W → Calls Tryd.prog 10 #[.string s] W fun e w' => e = .returned (.tuple #[.agg #[.int .i64 X, .int .i64 Y, .int .i64 D], .bool B]) ∧ Below W.heap.size W w') := by
  have hsp := fun W => spec_split s (sep 44) W hs (by decide)
  rcases split_c 44 s with ⟨p, hx, hp, h44⟩ | ⟨p, q, hx, hl, hp⟩ | ⟨p, q, r, t, hx, ⟨z, hl⟩, hp⟩
  · rw [hx] at hsp
    have HS := fun W => (hsp W).mono (fun e w' h => gives_cells h (by simp))
    exact ⟨0, 0, 0, false, fun W => ss_len s [p] rfl W HS, fun W hv => impl_ps_no s W hs h44 hv⟩
  · rw [hx] at hsp
    have HS := fun W => (hsp W).mono (fun e w' h => gives_cells h (by simp))
    obtain ⟨n1, d1, b1, r1⟩ := RAns.ex p.data.toList
    obtain ⟨n2, d2, b2, r2⟩ := RAns.ex q.data.toList
    have g1 := fun W => spec_ps2 s p q n1 d1 n2 d2 b1 b2 W HS hl hs r1 r2
    have g2 := fun W hv => impl_ps_yes s _ _ n1 d1 n2 d2 b1 b2 W hs hl hp r1 r2 hv
    obtain ⟨X, Y, D, B, e⟩ : ∃ X Y D : Int, ∃ B : Bool, twoS n1 d1 b1 n2 d2 b2 = .tuple #[.agg #[.int .i64 X, .int .i64 Y, .int .i64 D], .bool B] := by
      unfold twoS
      split
      · exact parS_ex _ _ _ _
      · exact ⟨0, 0, 0, false, rfl⟩
    rw [e] at g1 g2
    exact ⟨X, Y, D, B, g1, g2⟩
  · rw [hx] at hsp
    have HS := fun W => (hsp W).mono (fun e w' h => gives_cells h (by simp))
    obtain ⟨n1, d1, b1, r1⟩ := RAns.ex p.data.toList
    have r2 : RAns (q.data.toList ++ 44 :: z) 0 0 false := .inr ⟨rfl, rfl, rfl, comma_no_rat (by simp)⟩
    have g2 := fun W hv => impl_ps_yes s _ _ n1 d1 0 0 b1 false W hs hl hp r1 r2 hv
    rw [show twoS n1 d1 b1 0 0 false = zeroS from if_neg (by simp)] at g2
    exact ⟨0, 0, 0, false, fun W => ss_len s (p :: q :: r :: t) (by simp; omega) W HS, g2⟩

set_option maxHeartbeats 1600000 in
theorem law_ps (s : ByteArray) (w : World) (_hs : s.size ≤ maxLen)
    (htab : Lib.TabIs Tryd.prog w "internal/strconv.uint64pow10" .u64 Lib.pow10Tab) (hsyn : ∃ tp p, w.var? Tryd.prog "strconv.ErrSyntax" = some #[.iface tp p]) (hran : ∃ tp p, w.var? Tryd.prog "strconv.ErrRange" = some #[.iface tp p]) :
    Calls Tryd.prog 5 #[.string s] w fun e w' => e = .returned (.bool true) ∧ Below w.heap.size w w' := by
  have HV := Lib.hid (show Vars w from ⟨htab, hsyn, hran⟩)
  clear htab hsyn hran
  by_cases hb : (1048576 : Int) < (s.size : Int)
  · go_enter Tryd.func5, Tryd.ntmps5
    go_wp2_with fail
    go_ret
    exact ⟨rfl, Below.refl _ _⟩
  · have hs2 : s.size ≤ 1048576 := by omega
    obtain ⟨X, Y, D, B, g1, g2⟩ := both_ps s hs2
    have H1 := Lib.hid g1
    have H2 := Lib.hid g2
    clear g1 g2
    go_enter Tryd.func5, Tryd.ntmps5
    go_wp2_with fail
    refine (H1.out _).mono ?_
    rintro e w1 ⟨rfl, hb1⟩
    go_wp2_with fail
    have hw2 := below_bx2 hb1 (.cells #[.int .i64 X, .int .i64 Y, .int .i64 D] 24)
    refine (H2.out _ (HV.out.below hw2)).mono ?_
    rintro e w2 ⟨rfl, hb2⟩
    have Q := has3_to hb2 (has3_new w1 (.int .i64 X) (.int .i64 Y) (.int .i64 D) 24)
    obtain ⟨c0, c1, c2, _, _, _⟩ := id Q
    have hz := has3_lt Q
    have hw3 := below_to hw2 hb2
    clear hb2 hw2 Q
    go_wp2_with fail
    refine (eq_spot X Y D _).mono ?_
    rintro e w3 ⟨rfl, hb3⟩
    go_wp2_with fail
    all_goals go_ret
    all_goals exact ⟨rfl, below_to (below_bx2 hw3 _) hb3⟩
end Go.Proofs.YtbdehelcpfkcmaaDoor
