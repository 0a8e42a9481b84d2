/- The contracts of both OtherSide functions over the translation, and the walk of their law. -/
import Derived.Test.YtkodoedkdgldnaaSid
namespace Go.Proofs.Ytkodoedkdgldnaa
open Go.RowKit

/-- what OtherSide answers -/
def othH (a b c : Int) : Value := .agg #[.int .i64 (kp (okH a b c) (-a)), .int .i64 (kp (okH a b c) (-b)), .int .i64 (kp (okH a b c) (-c))]
theorem othH_ex (a b c : Int) : ∃ A B C : Int, othH a b c = .agg #[.int .i64 A, .int .i64 B, .int .i64 C] := ⟨_, _, _, rfl⟩
theorem othH_no {a b c : Int} (h : okH a b c = false) : othH a b c = .agg #[.int .i64 0, .int .i64 0, .int .i64 0] := by unfold othH; rw [h]; rfl
theorem othH_yes {a b c : Int} (h : okH a b c = true) : othH a b c = .agg #[.int .i64 (-a), .int .i64 (-b), .int .i64 (-c)] := by unfold othH; rw [h]; rfl

set_option maxHeartbeats 1600000 in
theorem spec_oth (a b c : Int) (w : World) (ha : -9223372036854775808 ≤ a) (ha2 : a ≤ 9223372036854775807) (hb : -9223372036854775808 ≤ b) (hb2 : b ≤ 9223372036854775807) (hc : -9223372036854775808 ≤ c) (hc2 : c ≤ 9223372036854775807) :
    Calls Try.prog 37 #[.agg #[.int .i64 a, .int .i64 b, .int .i64 c]] w fun e w' => e = .returned (othH a b c) ∧ Below w.heap.size w w' := by
  have HO := Lib.hid (fun W => spec_hok a b c W ha ha2 hb hb2 hc hc2)
  cases hk : okH a b c with
  | false =>
    rw [othH_no hk]
    rw [hk] at HO
    clear hk
    go_enter Try.func37, Try.ntmps37
    go_wp2_with fail
    refine (HO.out _).mono ?_
    rintro e w1 ⟨rfl, bl1⟩
    obtain ⟨_, ⟨p0, p1, p2, f0, f1, f2⟩, hbw⟩ := sboxes bl1
    clear bl1
    go_wp2_with fail
    refine bodyPost_ret (v := .agg #[.int .i64 0, .int .i64 0, .int .i64 0]) (by simp [results, Try.results37, go_sem, p0, p1, p2]) rfl ⟨rfl, ?_⟩
    exact below_set3 _ _ _ hbw (by simp)
  | true =>
    obtain ⟨a1, a2, b1, b2, _, c1, c2, _⟩ := (okH_iff _ _ _).1 hk
    rw [othH_yes hk]
    rw [hk] at HO
    clear hk
    go_enter Try.func37, Try.ntmps37
    go_wp2_with fail
    refine (HO.out _).mono ?_
    rintro e w1 ⟨rfl, bl1⟩
    obtain ⟨⟨q0, q1, q2, _, _, _⟩, ⟨p0, p1, p2, f0, f1, f2⟩, hbw⟩ := sboxes bl1
    clear bl1
    go_wp2_with fail
    refine bodyPost_ret (v := .agg #[.int .i64 (-a), .int .i64 (-b), .int .i64 (-c)]) (by simp [results, Try.results37, go_sem, p0, p1, p2]) rfl ⟨rfl, ?_⟩
    exact below_set3 _ _ _ hbw (by simp)

set_option maxHeartbeats 1600000 in
theorem impl_oth (a b c : Int) (w : World) (ha : -9223372036854775808 ≤ a) (ha2 : a ≤ 9223372036854775807) (hb : -9223372036854775808 ≤ b) (hb2 : b ≤ 9223372036854775807) (hc : -9223372036854775808 ≤ c) (hc2 : c ≤ 9223372036854775807) :
    Calls Try.prog 17 #[.agg #[.int .i64 a, .int .i64 b, .int .i64 c]] w fun e w' => e = .returned (othH a b c) ∧ Below w.heap.size w w' := by
  have HO := Lib.hid (fun W => impl_hok a b c W ha ha2 hb hb2 hc hc2)
  cases hk : okH a b c with
  | false =>
    rw [othH_no hk]
    rw [hk] at HO
    clear hk
    go_enter Try.func17, Try.ntmps17
    go_wp2_with fail
    refine (HO.out _).mono ?_
    rintro e w1 ⟨rfl, bl1⟩
    obtain ⟨_, ⟨p0, p1, p2, f0, f1, f2⟩, hbw⟩ := sboxes bl1
    clear bl1
    go_wp2_with fail
    refine bodyPost_ret (v := .agg #[.int .i64 0, .int .i64 0, .int .i64 0]) (by simp [results, Try.results17, go_sem, p0, p1, p2]) rfl ⟨rfl, ?_⟩
    exact below_set3 _ _ _ hbw (by simp)
  | true =>
    obtain ⟨a1, a2, b1, b2, _, c1, c2, _⟩ := (okH_iff _ _ _).1 hk
    rw [othH_yes hk]
    rw [hk] at HO
    clear hk
    go_enter Try.func17, Try.ntmps17
    go_wp2_with fail
    refine (HO.out _).mono ?_
    rintro e w1 ⟨rfl, bl1⟩
    obtain ⟨⟨q0, q1, q2, _, _, _⟩, ⟨p0, p1, p2, f0, f1, f2⟩, hbw⟩ := sboxes bl1
    clear bl1
    go_wp2_with fail
    refine bodyPost_ret (v := .agg #[.int .i64 (-a), .int .i64 (-b), .int .i64 (-c)]) (by simp [results, Try.results17, go_sem, p0, p1, p2]) rfl ⟨rfl, ?_⟩
    exact below_set3 _ _ _ hbw (by simp)

set_option maxHeartbeats 800000 in
theorem eq_half (x y d : Int) (w : World) :
    Calls Try.prog 33 #[.agg #[.int .i64 x, .int .i64 y, .int .i64 d], .agg #[.int .i64 x, .int .i64 y, .int .i64 d]] w fun e w' => e = .returned (.bool true) ∧ Below w.heap.size w w' := by
  go_enter Try.func33, Try.ntmps33
  go_wp2
  go_ret
  exact ⟨rfl, below_bx2 (below_box _ _) _⟩

set_option maxHeartbeats 3200000 in
theorem law_oth (x y d : Int) (wx : (Lit.int .i64 x).wf = true) (wy : (Lit.int .i64 y).wf = true) (wd : (Lit.int .i64 d).wf = true) (w : World) :
    Calls Try.prog 10 #[.agg #[.int .i64 x, .int .i64 y, .int .i64 d]] w fun e w' => e = .returned (.bool true) ∧ Below w.heap.size w w' := by
  obtain ⟨hx, hx2⟩ := bounds_i64 wx
  obtain ⟨hy, hy2⟩ := bounds_i64 wy
  obtain ⟨hd, hd2⟩ := bounds_i64 wd
  clear wx wy wd
  have HS := Lib.hid (fun W => spec_oth x y d W hx hx2 hy hy2 hd hd2)
  have HI := Lib.hid (fun W => impl_oth x y d W hx hx2 hy hy2 hd hd2)
  obtain ⟨X, Y, D, eA⟩ := othH_ex x y d
  rw [eA] at HS HI
  clear eA hx hx2 hy hy2 hd hd2
  have hw := below_box w (.cells #[.int .i64 x, .int .i64 y, .int .i64 d] 43)
  have hc := has3_new w (.int .i64 x) (.int .i64 y) (.int .i64 d) 43
  go_enter Try.func10, Try.ntmps10
  go_wp2_with fail
  refine (to_half x y d _).mono ?_
  rintro e w1 ⟨rfl, bl1⟩
  go_wp2_with fail
  refine (HS.out _).mono ?_
  rintro e w2 ⟨rfl, bl2⟩
  have c2 := has3_to (below_to bl1 bl2) hc
  have hw2 := below_to (below_to hw bl1) bl2
  obtain ⟨p0, p1, p2, _, _, _⟩ := id c2
  have hz := has3_lt c2
  clear bl1 bl2 hc
  go_wp2_with fail
  refine (to_half x y d _).mono ?_
  rintro e w3 ⟨rfl, bl3⟩
  go_wp2_with fail
  refine (HI.out _).mono ?_
  rintro e w4 ⟨rfl, bl4⟩
  have hz4 := has3_lt (has3_to (below_to bl3 bl4) (has3_new w2 (.int .i64 X) (.int .i64 Y) (.int .i64 D) 24))
  obtain ⟨r0, r1, r2, _, _, _⟩ := has3_to (below_to bl3 bl4) (has3_new w2 (.int .i64 X) (.int .i64 Y) (.int .i64 D) 24)
  have hw4 := below_to (below_to (below_bx2 hw2 (.cells #[.int .i64 X, .int .i64 Y, .int .i64 D] 24)) bl3) bl4
  clear bl3 bl4 p0 p1 p2 c2
  go_wp2_with fail
  refine (eq_half X Y D _).mono ?_
  rintro e w5 ⟨rfl, bl5⟩
  go_wp2_with fail
  go_ret
  exact ⟨rfl, below_to (below_bx2 hw4 _) bl5⟩

end Go.Proofs.Ytkodoedkdgldnaa
