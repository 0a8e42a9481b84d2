/- The contracts of both FormatSpot functions over the translation, and the walk of their law. -/
import Derived.Test.YtbdehelcpfkcmaaDoorSof2
import Derived.Test.YtbdehelcpfkcmaaDoorFr
import Derived.Test.YtbdehelcpfkcmaaDoorOf
namespace Go.Proofs.YtbdehelcpfkcmaaDoor
open Go.RowKit

/-- the text of a spot -/
def fmtS (x y d : Int) : List UInt8 := if okS x y d = true then fmtR (sgnR x d) (botR x d) ++ (44 :: fmtR (sgnR y d) (botR y d)) else []
theorem fmtS_no {x y d : Int} (h : okS x y d = false) : fmtS x y d = [] := if_neg (by rw [h]; simp)
theorem fmtS_yes {x y d : Int} (h : okS x y d = true) : fmtS x y d = fmtR (sgnR x d) (botR x d) ++ (44 :: fmtR (sgnR y d) (botR y d)) := if_pos h
theorem comma_join (a b : List UInt8) : (str a ++ ⟨#[44]⟩) ++ str b = str (a ++ (44 :: b)) := by
  apply ByteArray.ext; simp [str]
theorem fmtR_len (n d : Int) (hn : -9223372036854775808 ≤ n) (hn2 : n ≤ 9223372036854775807) (hd : -9223372036854775808 ≤ d) (hd2 : d ≤ 9223372036854775807) : (fmtR n d).length ≤ 43 := by
  have h1 := itoa_len n hn hn2
  have h2 := itoa_len d hd hd2
  unfold fmtR
  split
  · split
    · omega
    · simp; omega
  · simp
theorem has_of_ok {n d : Int} (h1 : 1 ≤ d) (h2 : d ≤ 5000000000) (h3 : -5000000000000 ≤ n) (h4 : n ≤ 5000000000000) : hasR n d = true := by
  have a := top_le n d
  have b := bot_le n d
  exact (hasR_iff n d).2 ⟨by omega, by omega, by omega⟩
/-- with a positive denominator -/
theorem sgn_div {n d : Int} (h1 : 1 ≤ d) : n.tdiv (Int.gcd n d : Int) = sgnR n d ∧ n / (Int.gcd n d : Int) = sgnR n d ∧ d / (Int.gcd n d : Int) = botR n d := by
  have hdv : (Int.gcd n d : Int) ∣ n := Int.gcd_dvd_left ..
  have e0 : n.tdiv (Int.gcd n d : Int) = n / (Int.gcd n d : Int) := Int.tdiv_eq_ediv_of_dvd hdv
  have e1 : n / (Int.gcd n d : Int) = sgnR n d := by
    unfold sgnR topR
    have hd : decide (d < 0) = false := by simp; omega
    rw [hd]
    by_cases hn : n < 0
    · rw [decide_eq_true hn]
      simp only [Bool.true_bne, Bool.not_false, if_true]
      obtain ⟨m, rfl⟩ : ∃ m : Nat, n = -(m : Int) := ⟨n.natAbs, by omega⟩
      rw [Int.neg_ediv_of_dvd (by rw [Int.dvd_neg] at hdv; exact hdv)]
      simp
    · rw [decide_eq_false hn]
      simp only [bne_self_eq_false]
      obtain ⟨m, rfl⟩ : ∃ m : Nat, n = (m : Int) := ⟨n.natAbs, by omega⟩
      simp
  refine ⟨by rw [e0, e1], e1, ?_⟩
  unfold botR
  obtain ⟨m, rfl⟩ : ∃ m : Nat, d = (m : Int) := ⟨d.natAbs, by omega⟩
  simp
theorem red_in {n d : Int} (h1 : 1 ≤ d) (h2 : d ≤ 5000000000) (h3 : -5000000000000 ≤ n) (h4 : n ≤ 5000000000000) : -5000000000000 ≤ sgnR n d ∧ sgnR n d ≤ 5000000000000 ∧ 1 ≤ (botR n d : Int) ∧ (botR n d : Int) ≤ 5000000000 := by
  have a := top_le n d
  have b := bot_le n d
  have c := bot_pos n d (by omega)
  have e := sgn_abs n d
  omega

set_option maxHeartbeats 1600000 in
theorem spec_of2 (n d N D : Int) (w : World) (hn : -5000000000000 ≤ n) (hn2 : n ≤ 5000000000000) (hd : 0 < d) (hd2 : d ≤ 5000000000) (hN : n / (Int.gcd n d : Int) = N) (hD : d / (Int.gcd n d : Int) = D) (hN0 : -5000000000000 ≤ N) (hN1 : N ≤ 5000000000000) (hD0 : -5000000000 ≤ D) (hD1 : D ≤ 5000000000) (hT : n.tdiv (Int.gcd n d : Int) = N) (hok : okR N D = true) :
    Calls Tryd.prog 35 #[.int .i64 n, .int .i64 d] w fun e w' => e = .returned (.agg #[.int .i64 N, .int .i64 D]) ∧ Below w.heap.size w w' := by
  have hg : 0 < Int.gcd n d := Nat.gcd_pos_of_pos_right _ (by omega)
  have HG := Lib.hid (spec_gcd n d · (by omega) (by omega) (by omega) (by omega))
  rw [gcdR_of n d (by omega) (by omega)] at HG
  have hg2 : Int.gcd n d ≤ 5000000000 := Nat.le_trans (Nat.gcd_le_right n.natAbs (by omega : 0 < d.natAbs)) (by omega)
  generalize Int.gcd n d = g at *
  have HO := Lib.hid hok
  clear hok
  have g0 : ((g : Int) == 0) = false := eq_z (by omega)
  have d0 : (d == 0) = false := eq_z (by omega)
  have hg3 : (0 : Int) < (g : Int) := by omega
  go_enter Tryd.func35, Tryd.ntmps35
  go_wp2_with fail
  refine (HG.out _).mono ?_
  rintro e w1 ⟨rfl, k, rfl⟩
  go_wp2_with fail
  have v0 : IntKind.i64.wrap N = N := IntWalk.i64_in _ (by omega)
  have v1 : IntKind.i64.wrap D = D := IntWalk.i64_in _ (by omega)
  go_region
  rw [hD]
  clear hN hD hT v0 v1 g0 hg hg2 hg3 HG
  go_wp2_with fail
  refine (spec_ok N D _ (by omega) (by omega) (by omega) (by omega)).mono ?_
  rw [HO.out]
  rintro e w2 ⟨rfl, hb2⟩
  obtain ⟨p0, p1, p2, p3, f0, f1, hz, hbw⟩ := boxes_drew hb2
  clear hb2
  go_wp2_with fail
  refine bodyPost_ret (v := .agg #[.int .i64 N, .int .i64 D]) (by simp [results, Tryd.results35, go_sem, p0, p1]) rfl ⟨rfl, ?_⟩
  exact (hbw.setCell (by simp) _).setCell (by simp) _

theorem spec_parts (d : Int) (h1 : 1 ≤ d) (h2 : d ≤ 5000000000) : ∃ (N B : Int → Int) (T : Int → ByteArray),
    (∀ n W, -5000000000000 ≤ n → n ≤ 5000000000000 → Calls Tryd.prog 35 #[.int .i64 n, .int .i64 d] W fun e w' => e = .returned (.agg #[.int .i64 (N n), .int .i64 (B n)]) ∧ Below W.heap.size W w') ∧
    (∀ n W, -5000000000000 ≤ n → n ≤ 5000000000000 → Calls Tryd.prog 34 #[.agg #[.int .i64 (N n), .int .i64 (B n)]] W fun e w' => e = .returned (.string (T n)) ∧ Below W.heap.size W w') ∧
    (∀ n, T n = str (fmtR (sgnR n d) (botR n d))) ∧ ∀ n, -5000000000000 ≤ n → n ≤ 5000000000000 → (T n).size ≤ 43 := by
  refine ⟨fun n => sgnR n d, fun n => (botR n d : Int), fun n => str (fmtR (sgnR n d) (botR n d)), ?_, ?_, fun _ => rfl, ?_⟩
  · intro n W h3 h4
    obtain ⟨e1, e2, e3⟩ := sgn_div (n := n) h1
    obtain ⟨r1, r2, r3, r4⟩ := red_in h1 h2 h3 h4
    exact spec_of2 n d (sgnR n d) (botR n d) W h3 h4 (by omega) h2 e2 e3 r1 r2 (by omega) r4 e1 (okR_of n d (has_of_ok h1 h2 h3 h4))
  · intro n W h3 h4
    obtain ⟨r1, r2, r3, r4⟩ := red_in h1 h2 h3 h4
    exact spec_fr (sgnR n d) (botR n d) W (by omega) (by omega) (by omega) (by omega)
  · intro n h3 h4
    obtain ⟨r1, r2, r3, r4⟩ := red_in h1 h2 h3 h4
    rw [str_size]
    exact fmtR_len _ _ (by omega) (by omega) (by omega) (by omega)
theorem impl_parts (d : Int) (h1 : 1 ≤ d) (h2 : d ≤ 5000000000) : ∃ (N B : Int → Int) (T : Int → ByteArray),
    (∀ n W, -5000000000000 ≤ n → n ≤ 5000000000000 → Calls Tryd.prog 29 #[.int .i64 n, .int .i64 d] W fun e w' => e = .returned (.agg #[.int .i64 (N n), .int .i64 (B n)]) ∧ Below W.heap.size W w') ∧
    (∀ n W, -5000000000000 ≤ n → n ≤ 5000000000000 → Lib.TabIs Tryd.prog W "internal/strconv.uint64pow10" .u64 Lib.pow10Tab → Calls Tryd.prog 28 #[.agg #[.int .i64 (N n), .int .i64 (B n)]] W fun e w' => e = .returned (.string (T n)) ∧ Below W.heap.size W w') ∧
    (∀ n, T n = str (fmtR (sgnR n d) (botR n d))) ∧ ∀ n, -5000000000000 ≤ n → n ≤ 5000000000000 → (T n).size ≤ 43 := by
  refine ⟨fun n => sgnR n d, fun n => (botR n d : Int), fun n => str (fmtR (sgnR n d) (botR n d)), ?_, ?_, fun _ => rfl, ?_⟩
  · intro n W h3 h4
    exact impl_of n d _ _ _ W (by omega) (by omega) (by omega) (by omega) (has_of_ok h1 h2 h3 h4) rfl rfl rfl
  · intro n W h3 h4 ht
    obtain ⟨r1, r2, r3, r4⟩ := red_in h1 h2 h3 h4
    exact impl_fr (sgnR n d) (botR n d) W (by omega) (by omega) (by omega) (by omega) ht
  · intro n h3 h4
    obtain ⟨r1, r2, r3, r4⟩ := red_in h1 h2 h3 h4
    rw [str_size]
    exact fmtR_len _ _ (by omega) (by omega) (by omega) (by omega)

theorem join_cm (a b : ByteArray) : (⟨(Lib.join ([a, b].map (·.data.toList)) (⟨#[44]⟩ : ByteArray).data.toList).toArray⟩ : ByteArray) = (a ++ ⟨#[44]⟩) ++ b := by
  apply ByteArray.ext; apply Array.ext'
  simp [Lib.join, List.intercalate]
theorem join_cm_len (a b : ByteArray) : (Lib.join ([a, b].map (·.data.toList)) (⟨#[44]⟩ : ByteArray).data.toList).length = a.size + (1 + b.size) := by
  simp [Lib.join, List.intercalate]; omega
theorem join_comma (a b : ByteArray) (W : World) (ha : a.size ≤ 43) (hb : b.size ≤ 43) :
    Calls Tryd.prog 27 #[.string ⟨#[44]⟩, .slice (some ⟨W.heap.size, 0, none⟩) 2 2] (W.alloc (.cells #[.string a, .string b] 9)) fun e w' => e = .returned (.string ((a ++ ⟨#[44]⟩) ++ b)) ∧ Below (W.alloc (.cells #[.string a, .string b] 9)).heap.size (W.alloc (.cells #[.string a, .string b] 9)) w' := by
  have h := join_parts W.heap.size 0 2 [a, b] ⟨#[44]⟩ (W.alloc (.cells #[.string a, .string b] 9)) (cells_two W a b) (by simp) (by simp) (by simp) (by rw [join_cm_len]; omega)
  rw [join_cm a b] at h
  exact h

set_option maxHeartbeats 1600000 in
theorem spec_sf (x y d : Int) (w : World) (hx : -9223372036854775808 ≤ x) (hx2 : x ≤ 9223372036854775807) (hy : -9223372036854775808 ≤ y) (hy2 : y ≤ 9223372036854775807) (hd : -9223372036854775808 ≤ d) (hd2 : d ≤ 9223372036854775807) :
    Calls Tryd.prog 15 #[.agg #[.int .i64 x, .int .i64 y, .int .i64 d]] w fun e w' => e = .returned (.string (str (fmtS x y d))) ∧ Below w.heap.size w w' := by
  have HO := Lib.hid (fun W => spec_sok x y d W hx hx2 hy hy2 hd hd2)
  have hb := below_box w (.cells #[.int .i64 x, .int .i64 y, .int .i64 d] 24)
  have hc := box3 w (.int .i64 x) (.int .i64 y) (.int .i64 d) 24
  cases hk : okS x y d with
  | false =>
    rw [fmtS_no hk]
    rw [hk] at HO
    clear hk
    go_enter Tryd.func15, Tryd.ntmps15
    go_wp2_with fail
    refine (HO.out _).mono ?_
    rintro e w1 ⟨rfl, hb1⟩
    go_wp2_with fail
    go_ret
    exact ⟨rfl, below_to hb hb1⟩
  | true =>
    rw [fmtS_yes hk, ← comma_join]
    obtain ⟨h1, h2, h3, h4, h5, h6, _⟩ := (okS_iff _ _ _).1 hk
    rw [hk] at HO
    obtain ⟨N, B, T, HN, HF, HT, HL⟩ := spec_parts d h1 h2
    have s1 := HL x (by omega) (by omega)
    have s2 := HL y (by omega) (by omega)
    rw [← HT x, ← HT y]
    have HN := Lib.hid HN
    have HF := Lib.hid HF
    have hx3 : -5000000000000 ≤ x := by omega
    have hx4 : x ≤ 5000000000000 := by omega
    have hy3 : -5000000000000 ≤ y := by omega
    have hy4 : y ≤ 5000000000000 := by omega
    have k1 : ∀ W, (Op.stringOp .add (T x) ⟨#[44]⟩).run Tryd.prog W = .ok (.string (T x ++ ⟨#[44]⟩)) W := fun W => run_string_add_sum W _ _ (by rw [show (⟨#[44]⟩ : ByteArray).size = 1 from rfl]; omega)
    have k2 : ∀ W, (Op.stringOp .add (T x ++ ⟨#[44]⟩) (T y)).run Tryd.prog W = .ok (.string ((T x ++ ⟨#[44]⟩) ++ T y)) W := fun W => run_string_add_sum W _ _ (by rw [ByteArray.size_append, show (⟨#[44]⟩ : ByteArray).size = 1 from rfl]; omega)
    clear hk HT HL s1 s2
    go_enter Tryd.func15, Tryd.ntmps15
    go_wp2_with fail
    refine (HO.out _).mono ?_
    rintro e w1 ⟨rfl, hb1⟩
    have p := three hb1 hc
    have hw1 := below_to hb hb1
    obtain ⟨p0, p1, p2⟩ := id p
    clear hb hb1 hc HO
    go_wp2_with fail
    go_region_held3 (fun w' => w'.cell? ⟨w.heap.size, 0, none⟩ = some (.int .i64 x) ∧ w'.cell? ⟨w.heap.size, 1, none⟩ = some (.int .i64 y) ∧ w'.cell? ⟨w.heap.size, 2, none⟩ = some (.int .i64 d)) ((refine three ?_ p; repeat (first | exact Below.refl _ _ | refine below_drw ?_ | refine below_to ?_ (by assumption))))
      (first | (go_at_call 35; refine (HN.out _ _ (by assumption) (by assumption)).mono ?_; rintro e w2 ⟨rfl, bl2⟩) | (go_at_call 34; refine (HF.out _ _ (by assumption) (by assumption)).mono ?_; rintro e w3 ⟨rfl, bl3⟩))
    all_goals
      go_wp2_with fail
      go_ret
      refine ⟨rfl, below_to hw1 ?_⟩
      repeat (first | exact Below.refl _ _ | refine below_drw ?_ | refine below_to ?_ (by assumption))

set_option maxHeartbeats 1600000 in
theorem impl_sf (x y d : Int) (w : World) (hx : -9223372036854775808 ≤ x) (hx2 : x ≤ 9223372036854775807) (hy : -9223372036854775808 ≤ y) (hy2 : y ≤ 9223372036854775807) (hd : -9223372036854775808 ≤ d) (hd2 : d ≤ 9223372036854775807) (htab : Lib.TabIs Tryd.prog w "internal/strconv.uint64pow10" .u64 Lib.pow10Tab) :
    Calls Tryd.prog 11 #[.agg #[.int .i64 x, .int .i64 y, .int .i64 d]] w fun e w' => e = .returned (.string (str (fmtS x y d))) ∧ Below w.heap.size w w' := by
  have HO := Lib.hid (fun W => impl_sok x y d W hx hx2 hy hy2 hd hd2)
  have HA := Lib.hid htab
  clear htab
  have hb := below_box w (.cells #[.int .i64 x, .int .i64 y, .int .i64 d] 24)
  have hc := box3 w (.int .i64 x) (.int .i64 y) (.int .i64 d) 24
  cases hk : okS x y d with
  | false =>
    rw [fmtS_no hk]
    rw [hk] at HO
    clear hk
    go_enter Tryd.func11, Tryd.ntmps11
    go_wp2_with fail
    refine (HO.out _).mono ?_
    rintro e w1 ⟨rfl, hb1⟩
    go_wp2_with fail
    go_ret
    exact ⟨rfl, below_to hb hb1⟩
  | true =>
    rw [fmtS_yes hk, ← comma_join]
    obtain ⟨h1, h2, h3, h4, h5, h6, _⟩ := (okS_iff _ _ _).1 hk
    rw [hk] at HO
    obtain ⟨N, B, T, HN, HF, HT, HL⟩ := impl_parts d h1 h2
    have s1 := HL x (by omega) (by omega)
    have s2 := HL y (by omega) (by omega)
    rw [← HT x, ← HT y]
    have HN := Lib.hid HN
    have HF := Lib.hid HF
    have hx3 : -5000000000000 ≤ x := by omega
    have hx4 : x ≤ 5000000000000 := by omega
    have hy3 : -5000000000000 ≤ y := by omega
    have hy4 : y ≤ 5000000000000 := by omega
    clear hk HT HL
    go_enter Tryd.func11, Tryd.ntmps11
    go_wp2_with fail
    refine (HO.out _).mono ?_
    rintro e w1 ⟨rfl, hb1⟩
    have p := three hb1 hc
    have hw1 := below_to hb hb1
    obtain ⟨p0, p1, p2⟩ := id p
    clear hb hb1 hc HO
    go_wp2_with fail
    go_region_held3 (fun w' => w'.cell? ⟨w.heap.size, 0, none⟩ = some (.int .i64 x) ∧ w'.cell? ⟨w.heap.size, 1, none⟩ = some (.int .i64 y) ∧ w'.cell? ⟨w.heap.size, 2, none⟩ = some (.int .i64 d)) ((refine three ?_ p; repeat (first | exact Below.refl _ _ | refine below_drw ?_ | refine below_bx ?_ _ | refine below_to ?_ (by assumption))))
      (first | (go_at_call 29; refine (HN.out _ _ (by assumption) (by assumption)).mono ?_; rintro e w2 ⟨rfl, bl2⟩) | (go_at_call 28; refine (HF.out _ _ (by assumption) (by assumption) (tab_below HA.out (by repeat (first | exact hw1 | refine below_drw ?_ | refine below_to ?_ (by assumption))))).mono ?_; rintro e w3 ⟨rfl, bl3⟩) | (go_at_call 27; refine (join_comma _ _ _ s1 s2).mono ?_; rintro e w4 ⟨rfl, bl4⟩))
    all_goals
      go_wp2_with fail
      go_ret
      refine ⟨rfl, below_to hw1 ?_⟩
      repeat (first | exact Below.refl _ _ | refine below_drw ?_ | refine below_bx ?_ _ | refine below_to ?_ (by assumption))

set_option maxHeartbeats 800000 in
theorem law_sf (x y d : Int) (w : World) (hx : -9223372036854775808 ≤ x) (hx2 : x ≤ 9223372036854775807) (hy : -9223372036854775808 ≤ y) (hy2 : y ≤ 9223372036854775807) (hd : -9223372036854775808 ≤ d) (hd2 : d ≤ 9223372036854775807) (htab : Lib.TabIs Tryd.prog w "internal/strconv.uint64pow10" .u64 Lib.pow10Tab) :
    Calls Tryd.prog 4 #[.agg #[.int .i64 x, .int .i64 y, .int .i64 d]] w fun e w' => e = .returned (.bool true) ∧ Below w.heap.size w w' := by
  have HA := Lib.hid htab
  clear htab
  have hb := below_box w (.cells #[.int .i64 x, .int .i64 y, .int .i64 d] 36)
  have hc := box3 w (.int .i64 x) (.int .i64 y) (.int .i64 d) 36
  go_enter Tryd.func4, Tryd.ntmps4
  go_wp2_with fail
  refine (to_spot x y d _).mono ?_
  rintro e w1 ⟨rfl, hb1⟩
  go_wp2_with fail
  refine (spec_sf x y d _ hx hx2 hy hy2 hd hd2).mono ?_
  rintro e w2 ⟨rfl, hb2⟩
  have hb12 := below_to hb1 hb2
  obtain ⟨c0, c1, c2⟩ := three hb12 hc
  go_wp2_with fail
  refine (to_spot x y d _).mono ?_
  rintro e w3 ⟨rfl, hb3⟩
  have hb13 := below_to hb12 hb3
  go_wp2_with fail
  refine (impl_sf x y d _ hx hx2 hy hy2 hd hd2 (tab_below HA.out (below_to hb hb13))).mono ?_
  rintro e w4 ⟨rfl, hb4⟩
  generalize str (fmtS x y d) = r
  go_wp2_with fail
  go_ret
  exact ⟨rfl, below_to (below_to hb hb13) hb4⟩
end Go.Proofs.YtbdehelcpfkcmaaDoor
