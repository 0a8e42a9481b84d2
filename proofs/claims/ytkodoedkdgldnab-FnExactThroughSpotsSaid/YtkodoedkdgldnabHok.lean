/- The contracts of both HalfOk functions over the translation, and the walk of their law. -/
import Derived.Test.YtkodoedkdgldnabHf
import Derived.Test.YtkodoedkdgldnabSof
namespace Go.Proofs.Ytkodoedkdgldnab
open Go.RowKit

set_option maxHeartbeats 3200000 in
theorem spec_hok (a b c : Int) (w : World) (ha : -9223372036854775808 ≤ a) (ha2 : a ≤ 9223372036854775807) (hb : -9223372036854775808 ≤ b) (hb2 : b ≤ 9223372036854775807) (hc : -9223372036854775808 ≤ c) (hc2 : c ≤ 9223372036854775807) :
    Calls Try.prog 14 #[.agg #[.int .i64 a, .int .i64 b, .int .i64 c]] w fun e w' => e = .returned (.bool (okH a b c)) ∧ Below w.heap.size w w' := by
  have hw := below_box w (.cells #[.int .i64 a, .int .i64 b, .int .i64 c] 25)
  by_cases h1 : -50000 ≤ a ∧ a ≤ 50000
  · obtain ⟨h1, h2⟩ := h1
    have HA := Lib.hid (inB_yes h1 h2)
    by_cases h3 : -50000 ≤ b ∧ b ≤ 50000
    · obtain ⟨h3, h4⟩ := h3
      have HB := Lib.hid (inB_yes h3 h4)
      by_cases h0 : a ≠ 0 ∨ b ≠ 0
      · have hz : (a != 0) = true ∨ ((a != 0) = false ∧ (b != 0) = true) := by
          by_cases k : a = 0
          · exact .inr ⟨by simp [k], by simp; omega⟩
          · exact .inl (by simpa using k)
        by_cases h5 : -100000000 ≤ c ∧ c ≤ 100000000
        · obtain ⟨h5, h6⟩ := h5
          have HC := Lib.hid (inB_yes h5 h6)
          rw [okH_yes h1 h2 h3 h4 h0 h5 h6]
          have HX := Lib.hid (fun W => spec_gcd a b W ha ha2 hb hb2)
          rw [gcdR_of a b (by omega) (by omega)] at HX
          have hg := gcd_le_max a b 50000 h1 h2 h3 h4
          have HY := Lib.hid (fun W => spec_gcd (Int.gcd a b) c W (by omega) (by omega) hc hc2)
          rw [gcdR_of (Int.gcd a b) c (by omega) (by omega)] at HY
          have HG := Lib.hid (show (gS a b c : Int) = (Int.gcd (Int.gcd a b) c : Int) from rfl)
          rw [HG.out]
          clear HG h0
          generalize ((Int.gcd ((Int.gcd a b : Nat) : Int) c : Nat) : Int) = K at *
          generalize ((Int.gcd a b : Nat) : Int) = G at *
          rcases hz with hz | ⟨hz, hz2⟩
          all_goals
            go_enter Try.func14, Try.ntmps14
            go_wp2_with fail
            go_quiet ((first
              | (go_at_call 20; first | (with_reducible exact Calls.quiet_of_same (in_spec_is _ _ _ _ true HA.out)) | (with_reducible exact Calls.quiet_of_same (in_spec_is _ _ _ _ true HB.out)) | (with_reducible exact Calls.quiet_of_same (in_spec_is _ _ _ _ true HC.out)))
              | (go_at_call 13; first | (with_reducible exact Calls.quiet_of (HX.out _)) | (with_reducible exact Calls.quiet_of (HY.out _)))
              | fail))
            go_wp2_with fail
            go_ret
            exact ⟨rfl, below_drew hw _⟩
        · rw [okH_no (a := a) (b := b) (c := c) (by omega)]
          have HC := Lib.hid (inB_no (n := c) (lo := -100000000) (hi := 100000000) (by omega))
          clear h5 h0
          rcases hz with hz | ⟨hz, hz2⟩
          all_goals
            go_enter Try.func14, Try.ntmps14
            go_wp2_with fail
            go_quiet ((first
              | (go_at_call 20; first | (with_reducible exact Calls.quiet_of_same (in_spec_is _ _ _ _ true HA.out)) | (with_reducible exact Calls.quiet_of_same (in_spec_is _ _ _ _ true HB.out)) | (with_reducible exact Calls.quiet_of_same (in_spec_is _ _ _ _ false HC.out)))
              | fail))
            go_wp2_with fail
            go_ret
            exact ⟨rfl, below_drew hw _⟩
      · rw [okH_no (a := a) (b := b) (c := c) (by omega)]
        have hz : (a != 0) = false := by simp; omega
        have hz2 : (b != 0) = false := by simp; omega
        clear h0
        go_enter Try.func14, Try.ntmps14
        go_wp2_with fail
        go_quiet ((first
          | (go_at_call 20; first | (with_reducible exact Calls.quiet_of_same (in_spec_is _ _ _ _ true HA.out)) | (with_reducible exact Calls.quiet_of_same (in_spec_is _ _ _ _ true HB.out)))
          | fail))
        go_wp2_with fail
        go_ret
        exact ⟨rfl, below_drew hw _⟩
    · rw [okH_no (a := a) (b := b) (c := c) (by omega)]
      have HB := Lib.hid (inB_no (n := b) (lo := -50000) (hi := 50000) (by omega))
      clear h3
      go_enter Try.func14, Try.ntmps14
      go_wp2_with fail
      go_quiet ((first
        | (go_at_call 20; first | (with_reducible exact Calls.quiet_of_same (in_spec_is _ _ _ _ true HA.out)) | (with_reducible exact Calls.quiet_of_same (in_spec_is _ _ _ _ false HB.out)))
        | fail))
      go_wp2_with fail
      go_ret
      exact ⟨rfl, below_drew hw _⟩
  · rw [okH_no (a := a) (b := b) (c := c) (by omega)]
    have HA := Lib.hid (inB_no (n := a) (lo := -50000) (hi := 50000) (by omega))
    clear h1
    go_enter Try.func14, Try.ntmps14
    go_wp2_with fail
    go_quiet ((first
      | (go_at_call 20; first | (with_reducible exact Calls.quiet_of_same (in_spec_is _ _ _ _ false HA.out)))
      | fail))
    go_wp2_with fail
    go_ret
    exact ⟨rfl, below_drew hw _⟩

set_option maxHeartbeats 3200000 in
theorem impl_hok (a b c : Int) (w : World) (ha : -9223372036854775808 ≤ a) (ha2 : a ≤ 9223372036854775807) (hb : -9223372036854775808 ≤ b) (hb2 : b ≤ 9223372036854775807) (hc : -9223372036854775808 ≤ c) (hc2 : c ≤ 9223372036854775807) :
    Calls Try.prog 19 #[.agg #[.int .i64 a, .int .i64 b, .int .i64 c]] w fun e w' => e = .returned (.bool (okH a b c)) ∧ Below w.heap.size w w' := by
  have hw := below_box w (.cells #[.int .i64 a, .int .i64 b, .int .i64 c] 25)
  by_cases h1 : -50000 ≤ a ∧ a ≤ 50000
  · obtain ⟨h1, h2⟩ := h1
    have HA := Lib.hid (inB_yes h1 h2)
    by_cases h3 : -50000 ≤ b ∧ b ≤ 50000
    · obtain ⟨h3, h4⟩ := h3
      have HB := Lib.hid (inB_yes h3 h4)
      by_cases h5 : -100000000 ≤ c ∧ c ≤ 100000000
      · obtain ⟨h5, h6⟩ := h5
        have HC := Lib.hid (inB_yes h5 h6)
        by_cases h0 : a ≠ 0 ∨ b ≠ 0
        · have hz : (a != 0) = true ∨ ((a != 0) = false ∧ (b != 0) = true) := by
            by_cases k : a = 0
            · exact .inr ⟨by simp [k], by simp; omega⟩
            · exact .inl (by simpa using k)
          rw [okH_yes h1 h2 h3 h4 h0 h5 h6]
          have HX := Lib.hid (fun W => impl_gcd a b W ha ha2 hb hb2)
          rw [gcdR_of a b (by omega) (by omega)] at HX
          have hg := gcd_le_max a b 50000 h1 h2 h3 h4
          have HY := Lib.hid (fun W => impl_gcd (Int.gcd a b) c W (by omega) (by omega) hc hc2)
          rw [gcdR_of (Int.gcd a b) c (by omega) (by omega)] at HY
          have HG := Lib.hid (show (gS a b c : Int) = (Int.gcd (Int.gcd a b) c : Int) from rfl)
          rw [HG.out]
          clear HG h0
          generalize ((Int.gcd ((Int.gcd a b : Nat) : Int) c : Nat) : Int) = K at *
          generalize ((Int.gcd a b : Nat) : Int) = G at *
          rcases hz with hz | ⟨hz, hz2⟩
          all_goals
            go_enter Try.func19, Try.ntmps19
            go_wp2_with fail
            refine (in_impl_is _ _ _ _ true HA.out).mono ?_
            rintro e w1 ⟨rfl, rfl⟩
            go_wp2_with fail
            refine (in_impl_is _ _ _ _ true HB.out).mono ?_
            rintro e w1 ⟨rfl, rfl⟩
            go_wp2_with fail
            refine (in_impl_is _ _ _ _ true HC.out).mono ?_
            rintro e w1 ⟨rfl, rfl⟩
            go_wp2_with fail
            go_quiet ((go_at_call 23; first | (with_reducible exact Calls.quiet_of (HX.out _)) | (with_reducible exact Calls.quiet_of (HY.out _))))
            go_wp2_with fail
            go_ret
            exact ⟨rfl, below_drew hw _⟩
        · rw [okH_no (a := a) (b := b) (c := c) (by omega)]
          have hz : (a != 0) = false := by simp; omega
          have hz2 : (b != 0) = false := by simp; omega
          clear h0
          go_enter Try.func19, Try.ntmps19
          go_wp2_with fail
          refine (in_impl_is _ _ _ _ true HA.out).mono ?_
          rintro e w1 ⟨rfl, rfl⟩
          go_wp2_with fail
          refine (in_impl_is _ _ _ _ true HB.out).mono ?_
          rintro e w1 ⟨rfl, rfl⟩
          go_wp2_with fail
          refine (in_impl_is _ _ _ _ true HC.out).mono ?_
          rintro e w1 ⟨rfl, rfl⟩
          go_wp2_with fail
          go_quiet (fail)
          go_wp2_with fail
          go_ret
          exact ⟨rfl, below_drew hw _⟩
      · rw [okH_no (a := a) (b := b) (c := c) (by omega)]
        have HC := Lib.hid (inB_no (n := c) (lo := -100000000) (hi := 100000000) (by omega))
        clear h5
        go_enter Try.func19, Try.ntmps19
        go_wp2_with fail
        refine (in_impl_is _ _ _ _ true HA.out).mono ?_
        rintro e w1 ⟨rfl, rfl⟩
        go_wp2_with fail
        refine (in_impl_is _ _ _ _ true HB.out).mono ?_
        rintro e w1 ⟨rfl, rfl⟩
        go_wp2_with fail
        refine (in_impl_is _ _ _ _ false HC.out).mono ?_
        rintro e w1 ⟨rfl, rfl⟩
        go_wp2_with fail
        go_ret
        exact ⟨rfl, hw⟩
    · rw [okH_no (a := a) (b := b) (c := c) (by omega)]
      have HB := Lib.hid (inB_no (n := b) (lo := -50000) (hi := 50000) (by omega))
      clear h3
      go_enter Try.func19, Try.ntmps19
      go_wp2_with fail
      refine (in_impl_is _ _ _ _ true HA.out).mono ?_
      rintro e w1 ⟨rfl, rfl⟩
      go_wp2_with fail
      refine (in_impl_is _ _ _ _ false HB.out).mono ?_
      rintro e w1 ⟨rfl, rfl⟩
      go_wp2_with fail
      go_ret
      exact ⟨rfl, hw⟩
  · rw [okH_no (a := a) (b := b) (c := c) (by omega)]
    have HA := Lib.hid (inB_no (n := a) (lo := -50000) (hi := 50000) (by omega))
    clear h1
    go_enter Try.func19, Try.ntmps19
    go_wp2_with fail
    refine (in_impl_is _ _ _ _ false HA.out).mono ?_
    rintro e w1 ⟨rfl, rfl⟩
    go_wp2_with fail
    go_ret
    exact ⟨rfl, hw⟩

end Go.Proofs.Ytkodoedkdgldnab
