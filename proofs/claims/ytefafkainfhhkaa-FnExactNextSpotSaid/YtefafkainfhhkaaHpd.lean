/- The contracts of both TighterHalf functions over the translation, and the walk of their law. The walk of TighterHalf's law. -/
import Derived.Test.YtefafkainfhhkaaHpc
import Derived.Test.YtefafkainfhhkaaSpo
namespace Go.Proofs.Ytefafkainfhhkaa
open Go.RowKit

/-- the sum of the magnitudes -/
def lenH (a b : Int) : Int := (a.natAbs : Int) + (b.natAbs : Int)
/-- what TighterHalf answers -/
def tigH (a b c x y d : Int) : Value := if sdH a b c x y d = true then (if d * lenH a b < c * lenH x y then .agg #[.int .i64 x, .int .i64 y, .int .i64 d] else .agg #[.int .i64 a, .int .i64 b, .int .i64 c]) else .agg #[.int .i64 0, .int .i64 0, .int .i64 0]
theorem tigH_ex (a b c x y d : Int) : ∃ X Y D : Int, tigH a b c x y d = .agg #[.int .i64 X, .int .i64 Y, .int .i64 D] := by
  unfold tigH
  split
  · split <;> exact ⟨_, _, _, rfl⟩
  · exact ⟨_, _, _, rfl⟩
theorem sdH_ok {a b c x y d : Int} (h : sdH a b c x y d = true) : okH a b c = true ∧ okH x y d = true := by
  unfold sdH at h
  simp only [Bool.and_eq_true] at h
  exact h.1
theorem len_in {a b c x y d : Int} (h : okH a b c = true) (k : okH x y d = true) : 0 ≤ lenH a b ∧ lenH a b ≤ 100000 ∧ -10000000000000 ≤ d * lenH a b ∧ d * lenH a b ≤ 10000000000000 := by
  obtain ⟨a1, a2, b1, b2, _⟩ := (okH_iff _ _ _).1 h
  obtain ⟨_, _, _, _, _, d1, d2, _⟩ := (okH_iff _ _ _).1 k
  have l : 0 ≤ lenH a b ∧ lenH a b ≤ 100000 := by unfold lenH; omega
  have m := mul_in d (lenH a b) 100000000 100000 d1 d2 (by omega) (by omega)
  omega

set_option maxHeartbeats 3200000 in
theorem spec_tig (a b c x y d : Int) (w : World) (ha : -9223372036854775808 ≤ a) (ha2 : a ≤ 9223372036854775807) (hb : -9223372036854775808 ≤ b) (hb2 : b ≤ 9223372036854775807) (hc : -9223372036854775808 ≤ c) (hc2 : c ≤ 9223372036854775807) (hx : -9223372036854775808 ≤ x) (hx2 : x ≤ 9223372036854775807) (hy : -9223372036854775808 ≤ y) (hy2 : y ≤ 9223372036854775807) (hd : -9223372036854775808 ≤ d) (hd2 : d ≤ 9223372036854775807) :
    Calls Try.prog 143 #[.agg #[.int .i64 a, .int .i64 b, .int .i64 c], .agg #[.int .i64 x, .int .i64 y, .int .i64 d]] w fun e w' => e = .returned (tigH a b c x y d) ∧ Below w.heap.size w w' := by
  have HO := Lib.hid (fun W => spec_sd a b c x y d W ha ha2 hb hb2 hc hc2 hx hx2 hy hy2 hd hd2)
  cases hk : sdH a b c x y d with
  | false =>
    rw [show tigH a b c x y d = .agg #[.int .i64 0, .int .i64 0, .int .i64 0] from if_neg (by rw [hk]; simp)]
    rw [hk] at HO
    clear hk
    go_enter Try.func143, Try.ntmps143
    go_wp2_with fail
    refine (HO.out _).mono ?_
    rintro e w1 ⟨rfl, bl1⟩
    obtain ⟨⟨q0, q1, q2, _, _, _⟩, ⟨r0, r1, r2, _, _, _⟩, ⟨p0, p1, p2, f0, f1, f2⟩, hbw⟩ := sboxes3 bl1
    clear bl1
    clear HO
    go_wp2_with fail
    refine bodyPost_ret (v := .agg #[.int .i64 0, .int .i64 0, .int .i64 0]) (by simp [results, Try.results143, go_sem, p0, p1, p2]) rfl ⟨rfl, ?_⟩
    exact below_set3 _ _ _ hbw (by omega)
  | true =>
    obtain ⟨k1, k2⟩ := sdH_ok hk
    obtain ⟨l0, l1, l2, l3⟩ := len_in k1 k2
    obtain ⟨n0, n1, n2, n3⟩ := len_in k2 k1
    obtain ⟨a1, a2, b1, b2, _, c1, c2, _⟩ := (okH_iff _ _ _).1 k1
    obtain ⟨x1, x2, y1, y2, _, d1, d2, _⟩ := (okH_iff _ _ _).1 k2
    have t : tigH a b c x y d = if d * lenH a b < c * lenH x y then .agg #[.int .i64 x, .int .i64 y, .int .i64 d] else .agg #[.int .i64 a, .int .i64 b, .int .i64 c] := if_pos hk
    rw [t]
    rw [hk] at HO
    clear hk k1 k2 t
    by_cases hlt : d * lenH a b < c * lenH x y
    · rw [if_pos hlt]
      generalize hL : lenH a b = L at *
      generalize hM : lenH x y = M at *
      have HL := Lib.hid hL
      have HM := Lib.hid hM
      clear hL hM
      generalize e1 : d * L = P at *
      generalize e2 : c * M = Q at *
      go_enter Try.func143, Try.ntmps143
      go_wp2_with fail
      refine (HO.out _).mono ?_
      rintro e w1 ⟨rfl, bl1⟩
      obtain ⟨⟨q0, q1, q2, _, _, _⟩, ⟨r0, r1, r2, _, _, _⟩, ⟨p0, p1, p2, f0, f1, f2⟩, hbw⟩ := sboxes3 bl1
      clear bl1
      clear HO
      go_upto_region 3 with fail
      go_cut [5] from 12 to 24 (fun s wx => s = .int .i64 L ∧ wx = w1)
      case first =>
        go_wp2_with fail
        all_goals
          go_meet
          exact ⟨by rw [← HL.out]; unfold lenH; congr 1; omega, rfl⟩
      case rest =>
        obtain ⟨rfl, rfl⟩ := hcut
        go_upto_region 4 with fail
        go_cut [6] from 25 to 37 (fun s wx => s = .int .i64 M ∧ wx = wc)
        case first =>
          go_wp2_with fail
          all_goals
            go_meet
            exact ⟨by rw [← HM.out]; unfold lenH; congr 1; omega, rfl⟩
        case rest =>
          obtain ⟨rfl, rfl⟩ := hcut
          go_wp2_with fail
          refine bodyPost_ret (v := .agg #[.int .i64 x, .int .i64 y, .int .i64 d]) (by simp [results, Try.results143, go_sem, p0, p1, p2]) rfl ⟨rfl, ?_⟩
          exact below_set3 _ _ _ hbw (by omega)
    · rw [if_neg hlt]
      generalize hL : lenH a b = L at *
      generalize hM : lenH x y = M at *
      have HL := Lib.hid hL
      have HM := Lib.hid hM
      clear hL hM
      generalize e1 : d * L = P at *
      generalize e2 : c * M = Q at *
      go_enter Try.func143, Try.ntmps143
      go_wp2_with fail
      refine (HO.out _).mono ?_
      rintro e w1 ⟨rfl, bl1⟩
      obtain ⟨⟨q0, q1, q2, _, _, _⟩, ⟨r0, r1, r2, _, _, _⟩, ⟨p0, p1, p2, f0, f1, f2⟩, hbw⟩ := sboxes3 bl1
      clear bl1
      clear HO
      go_upto_region 3 with fail
      go_cut [5] from 12 to 24 (fun s wx => s = .int .i64 L ∧ wx = w1)
      case first =>
        go_wp2_with fail
        all_goals
          go_meet
          exact ⟨by rw [← HL.out]; unfold lenH; congr 1; omega, rfl⟩
      case rest =>
        obtain ⟨rfl, rfl⟩ := hcut
        go_upto_region 4 with fail
        go_cut [6] from 25 to 37 (fun s wx => s = .int .i64 M ∧ wx = wc)
        case first =>
          go_wp2_with fail
          all_goals
            go_meet
            exact ⟨by rw [← HM.out]; unfold lenH; congr 1; omega, rfl⟩
        case rest =>
          obtain ⟨rfl, rfl⟩ := hcut
          go_wp2_with fail
          refine bodyPost_ret (v := .agg #[.int .i64 a, .int .i64 b, .int .i64 c]) (by simp [results, Try.results143, go_sem, p0, p1, p2]) rfl ⟨rfl, ?_⟩
          exact below_set3 _ _ _ hbw (by omega)

/-- a struct of three ints that lies in a new block -/
def LiesT (T : TypeId) (W : World) (x y d : Int) (v : Value) (wx : World) : Prop := ∃ g, v = .pointer (some ⟨g, 0, none⟩) ∧ W.heap.size ≤ g ∧ wx.heap[g]? = some (.cells #[.int .i64 x, .int .i64 y, .int .i64 d] T (0, 0)) ∧ Below W.heap.size W wx

set_option maxHeartbeats 800000 in
theorem to_half_w (x y d : Int) (w : World) :
    Calls Try.prog 102 #[.agg #[.int .i64 x, .int .i64 y, .int .i64 d]] w fun e w' => e = .returned (.agg #[.int .i64 x, .int .i64 y, .int .i64 d]) ∧ w' = ((w.alloc (.cells #[.int .i64 x, .int .i64 y, .int .i64 d] 117)).alloc (.cells #[.int .i64 x, .int .i64 y, .int .i64 d] 88)).alloc (.cells #[.int .i64 x, .int .i64 y, .int .i64 d] 88) := by
  go_enter Try.func102, Try.ntmps102
  go_wp2
  exact bodyPost_ret (v := .agg #[.int .i64 x, .int .i64 y, .int .i64 d]) (by simp [results, Try.results102, go_sem]) rfl ⟨rfl, rfl⟩

end Go.Proofs.Ytefafkainfhhkaa
