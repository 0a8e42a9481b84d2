/- The contracts of both RatioCmp functions at every input, and the walk of their law. -/
import Derived.Test.YtefafkainfhhkaaCmp2
namespace Go.Proofs.Ytefafkainfhhkaa
open Go.RowKit

set_option maxHeartbeats 800000 in
theorem spec_cmp (a b c d : Int) (w : World) (ha : -9223372036854775808 ≤ a) (ha2 : a ≤ 9223372036854775807) (hb : -9223372036854775808 ≤ b) (hb2 : b ≤ 9223372036854775807) (hc : -9223372036854775808 ≤ c) (hc2 : c ≤ 9223372036854775807) (hd : -9223372036854775808 ≤ d) (hd2 : d ≤ 9223372036854775807) :
    Calls Try.prog 125 #[.agg #[.int .i64 a, .int .i64 b], .agg #[.int .i64 c, .int .i64 d]] w fun e w' => e = .returned (.int .i64 (cmpO a b c d)) ∧ Below w.heap.size w w' := by
  have hw : Below w.heap.size w ((w.alloc (.cells #[.int .i64 a, .int .i64 b] 27)).alloc (.cells #[.int .i64 c, .int .i64 d] 27)) := below_box2 (below_box _ _) _
  cases h1 : okR a b with
  | false =>
    rw [cmpO_no1 h1]
    have H1 := Lib.hid h1
    clear h1
    go_enter Try.func125, Try.ntmps125
    go_wp2_with fail
    refine (spec_ok a b _ ha ha2 hb hb2).mono ?_
    rw [H1.out]
    rintro e w1 ⟨rfl, bl1⟩
    go_wp2_with fail
    go_ret
    exact ⟨rfl, hw.trans (bl1.mono hw.size)⟩
  | true =>
    cases h2 : okR c d with
    | false =>
      rw [cmpO_no2 h2]
      have H1 := Lib.hid h1
      have H2 := Lib.hid h2
      clear h1 h2
      go_enter Try.func125, Try.ntmps125
      go_wp2_with fail
      refine (spec_ok a b _ ha ha2 hb hb2).mono ?_
      rw [H1.out]
      rintro e w1 ⟨rfl, bl1⟩
      obtain ⟨p0, p1, p2, p3, hz1⟩ := boxed2 bl1
      go_wp2_with fail
      refine (spec_ok c d _ hc hc2 hd hd2).mono ?_
      rw [H2.out]
      rintro e w2 ⟨rfl, bl2⟩
      have bl12 := bl1.trans (bl2.mono bl1.size)
      go_wp2_with fail
      go_ret
      exact ⟨rfl, hw.trans (bl12.mono hw.size)⟩
    | true =>
      rw [cmpO_of h1 h2]
      obtain ⟨q1, q2, q3, q4, _⟩ := (okR_iff _ _).1 h1
      obtain ⟨q5, q6, q7, q8, _⟩ := (okR_iff _ _).1 h2
      exact spec_cmp_loop a b c d w (by omega) (by omega) (by omega) (by omega) (by omega) (by omega) (by omega) (by omega) h1 h2

set_option maxHeartbeats 800000 in
theorem impl_cmp (a b c d : Int) (w : World) (ha : -9223372036854775808 ≤ a) (ha2 : a ≤ 9223372036854775807) (hb : -9223372036854775808 ≤ b) (hb2 : b ≤ 9223372036854775807) (hc : -9223372036854775808 ≤ c) (hc2 : c ≤ 9223372036854775807) (hd : -9223372036854775808 ≤ d) (hd2 : d ≤ 9223372036854775807) :
    Calls Try.prog 96 #[.agg #[.int .i64 a, .int .i64 b], .agg #[.int .i64 c, .int .i64 d]] w fun e w' => e = .returned (.int .i64 (cmpO a b c d)) ∧ Below w.heap.size w w' := by
  have hw : Below w.heap.size w ((w.alloc (.cells #[.int .i64 a, .int .i64 b] 27)).alloc (.cells #[.int .i64 c, .int .i64 d] 27)) := below_box2 (below_box _ _) _
  cases h1 : okR a b with
  | false =>
    rw [cmpO_no1 h1]
    have H1 := Lib.hid h1
    clear h1
    go_enter Try.func96, Try.ntmps96
    go_wp2_with fail
    go_step3
    go_wp2_with fail
    refine (impl_ok a b _ ha ha2 hb hb2).mono ?_
    rw [H1.out]
    rintro e w1 ⟨rfl, bl1⟩
    go_wp2_with fail
    try rw [Exit.noGoto_ret]
    go_ret
    exact ⟨rfl, hw.trans (bl1.mono hw.size)⟩
  | true =>
    cases h2 : okR c d with
    | false =>
      rw [cmpO_no2 h2]
      have H1 := Lib.hid h1
      have H2 := Lib.hid h2
      clear h1 h2
      go_enter Try.func96, Try.ntmps96
      go_wp2_with fail
      go_step3
      go_wp2_with fail
      refine (impl_ok a b _ ha ha2 hb hb2).mono ?_
      rw [H1.out]
      rintro e w1 ⟨rfl, bl1⟩
      obtain ⟨p0, p1, p2, p3, hz1⟩ := boxed2 bl1
      go_wp2_with fail
      refine (impl_ok c d _ hc hc2 hd hd2).mono ?_
      rw [H2.out]
      rintro e w2 ⟨rfl, bl2⟩
      have bl12 := bl1.trans (bl2.mono bl1.size)
      go_wp2_with fail
      try rw [Exit.noGoto_ret]
      go_ret
      exact ⟨rfl, hw.trans (bl12.mono hw.size)⟩
    | true =>
      rw [cmpO_of h1 h2]
      obtain ⟨q1, q2, q3, q4, _⟩ := (okR_iff _ _).1 h1
      obtain ⟨q5, q6, q7, q8, _⟩ := (okR_iff _ _).1 h2
      exact impl_cmp_loop a b c d w (by omega) (by omega) (by omega) (by omega) (by omega) (by omega) (by omega) (by omega) h1 h2

theorem below_six {W w2 : World} (o1 o2 o3 o4 o5 o6 : Obj) (bl : Below ((((((W.alloc o1).alloc o2).alloc o3).alloc o4).alloc o5).alloc o6).drew.heap.size ((((((W.alloc o1).alloc o2).alloc o3).alloc o4).alloc o5).alloc o6).drew w2) : Below W.heap.size W w2 := by
  have h : Below W.heap.size W ((((((W.alloc o1).alloc o2).alloc o3).alloc o4).alloc o5).alloc o6).drew := below_drew1 (below_box2 (below_box2 (below_box2 (below_box2 (below_box2 (below_box _ _) _) _) _) _) _)
  exact h.trans (bl.mono h.size)
theorem to_ratio_w (n d : Int) (w : World) :
    Calls Try.prog 37 #[.agg #[.int .i64 n, .int .i64 d]] w fun e w' => e = .returned (.agg #[.int .i64 n, .int .i64 d]) ∧ w' = ((w.alloc (.cells #[.int .i64 n, .int .i64 d] 59)).alloc (.cells #[.int .i64 n, .int .i64 d] 27)).alloc (.cells #[.int .i64 n, .int .i64 d] 27) := by
  go_enter Try.func37, Try.ntmps37
  go_wp2
  exact bodyPost_ret (v := .agg #[.int .i64 n, .int .i64 d]) (by simp [results, Try.results37, go_sem]) rfl ⟨rfl, rfl⟩

end Go.Proofs.Ytefafkainfhhkaa
