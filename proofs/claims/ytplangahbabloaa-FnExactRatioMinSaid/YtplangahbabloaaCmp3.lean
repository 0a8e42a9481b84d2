/- The contracts of both RatioCmp functions at every input, and the walk of their law. -/
import Derived.Test.YtplangahbabloaaCmp2
namespace Go.Proofs.Ytplangahbabloaa
open Go.RowKit

set_option maxHeartbeats 800000 in
theorem spec_cmp (a b c d : Int) (w : World) (ha : -9223372036854775808 ≤ a) (ha2 : a ≤ 9223372036854775807) (hb : -9223372036854775808 ≤ b) (hb2 : b ≤ 9223372036854775807) (hc : -9223372036854775808 ≤ c) (hc2 : c ≤ 9223372036854775807) (hd : -9223372036854775808 ≤ d) (hd2 : d ≤ 9223372036854775807) :
    Calls Try.prog 15 #[.agg #[.int .i64 a, .int .i64 b], .agg #[.int .i64 c, .int .i64 d]] w fun e w' => e = .returned (.int .i64 (cmpO a b c d)) ∧ Below w.heap.size w w' := by
  have hw : Below w.heap.size w ((w.alloc (.cells #[.int .i64 a, .int .i64 b] 27)).alloc (.cells #[.int .i64 c, .int .i64 d] 27)) := below_box2 (below_box _ _) _
  cases h1 : okR a b with
  | false =>
    rw [cmpO_no1 h1]
    have H1 := Lib.hid h1
    clear h1
    go_enter Try.func15, Try.ntmps15
    go_wp2_with fail
    refine (spec_ok a b _ ha ha2 hb hb2).mono ?_
    rw [H1.out]
    rintro e w1 ⟨rfl, bl1⟩
    go_wp2_with fail
    go_ret
    exact ⟨rfl, hw.trans (bl1.mono hw.size)⟩
  | true =>
    cases h2 : okR c d with
    | false =>
      rw [cmpO_no2 h2]
      have H1 := Lib.hid h1
      have H2 := Lib.hid h2
      clear h1 h2
      go_enter Try.func15, Try.ntmps15
      go_wp2_with fail
      refine (spec_ok a b _ ha ha2 hb hb2).mono ?_
      rw [H1.out]
      rintro e w1 ⟨rfl, bl1⟩
      obtain ⟨p0, p1, p2, p3, hz1⟩ := boxed2 bl1
      go_wp2_with fail
      refine (spec_ok c d _ hc hc2 hd hd2).mono ?_
      rw [H2.out]
      rintro e w2 ⟨rfl, bl2⟩
      have bl12 := bl1.trans (bl2.mono bl1.size)
      go_wp2_with fail
      go_ret
      exact ⟨rfl, hw.trans (bl12.mono hw.size)⟩
    | true =>
      rw [cmpO_of h1 h2]
      obtain ⟨q1, q2, q3, q4, _⟩ := (okR_iff _ _).1 h1
      obtain ⟨q5, q6, q7, q8, _⟩ := (okR_iff _ _).1 h2
      exact spec_cmp_loop a b c d w (by omega) (by omega) (by omega) (by omega) (by omega) (by omega) (by omega) (by omega) h1 h2

set_option maxHeartbeats 800000 in
theorem impl_cmp (a b c d : Int) (w : World) (ha : -9223372036854775808 ≤ a) (ha2 : a ≤ 9223372036854775807) (hb : -9223372036854775808 ≤ b) (hb2 : b ≤ 9223372036854775807) (hc : -9223372036854775808 ≤ c) (hc2 : c ≤ 9223372036854775807) (hd : -9223372036854775808 ≤ d) (hd2 : d ≤ 9223372036854775807) :
    Calls Try.prog 16 #[.agg #[.int .i64 a, .int .i64 b], .agg #[.int .i64 c, .int .i64 d]] w fun e w' => e = .returned (.int .i64 (cmpO a b c d)) ∧ Below w.heap.size w w' := by
  have hw : Below w.heap.size w ((w.alloc (.cells #[.int .i64 a, .int .i64 b] 27)).alloc (.cells #[.int .i64 c, .int .i64 d] 27)) := below_box2 (below_box _ _) _
  cases h1 : okR a b with
  | false =>
    rw [cmpO_no1 h1]
    have H1 := Lib.hid h1
    clear h1
    go_enter Try.func16, Try.ntmps16
    go_wp2_with fail
    go_step3
    go_wp2_with fail
    refine (impl_ok a b _ ha ha2 hb hb2).mono ?_
    rw [H1.out]
    rintro e w1 ⟨rfl, bl1⟩
    go_wp2_with fail
    try rw [Exit.noGoto_ret]
    go_ret
    exact ⟨rfl, hw.trans (bl1.mono hw.size)⟩
  | true =>
    cases h2 : okR c d with
    | false =>
      rw [cmpO_no2 h2]
      have H1 := Lib.hid h1
      have H2 := Lib.hid h2
      clear h1 h2
      go_enter Try.func16, Try.ntmps16
      go_wp2_with fail
      go_step3
      go_wp2_with fail
      refine (impl_ok a b _ ha ha2 hb hb2).mono ?_
      rw [H1.out]
      rintro e w1 ⟨rfl, bl1⟩
      obtain ⟨p0, p1, p2, p3, hz1⟩ := boxed2 bl1
      go_wp2_with fail
      refine (impl_ok c d _ hc hc2 hd hd2).mono ?_
      rw [H2.out]
      rintro e w2 ⟨rfl, bl2⟩
      have bl12 := bl1.trans (bl2.mono bl1.size)
      go_wp2_with fail
      try rw [Exit.noGoto_ret]
      go_ret
      exact ⟨rfl, hw.trans (bl12.mono hw.size)⟩
    | true =>
      rw [cmpO_of h1 h2]
      obtain ⟨q1, q2, q3, q4, _⟩ := (okR_iff _ _).1 h1
      obtain ⟨q5, q6, q7, q8, _⟩ := (okR_iff _ _).1 h2
      exact impl_cmp_loop a b c d w (by omega) (by omega) (by omega) (by omega) (by omega) (by omega) (by omega) (by omega) h1 h2

theorem below_six {W w2 : World} (o1 o2 o3 o4 o5 o6 : Obj) (bl : Below ((((((W.alloc o1).alloc o2).alloc o3).alloc o4).alloc o5).alloc o6).drew.heap.size ((((((W.alloc o1).alloc o2).alloc o3).alloc o4).alloc o5).alloc o6).drew w2) : Below W.heap.size W w2 := by
  have h : Below W.heap.size W ((((((W.alloc o1).alloc o2).alloc o3).alloc o4).alloc o5).alloc o6).drew := below_drew1 (below_box2 (below_box2 (below_box2 (below_box2 (below_box2 (below_box _ _) _) _) _) _) _)
  exact h.trans (bl.mono h.size)
theorem to_ratio_w (n d : Int) (w : World) :
    Calls Try.prog 13 #[.agg #[.int .i64 n, .int .i64 d]] w fun e w' => e = .returned (.agg #[.int .i64 n, .int .i64 d]) ∧ w' = ((w.alloc (.cells #[.int .i64 n, .int .i64 d] 25)).alloc (.cells #[.int .i64 n, .int .i64 d] 27)).alloc (.cells #[.int .i64 n, .int .i64 d] 27) := by
  go_enter Try.func13, Try.ntmps13
  go_wp2
  exact bodyPost_ret (v := .agg #[.int .i64 n, .int .i64 d]) (by simp [results, Try.results13, go_sem]) rfl ⟨rfl, rfl⟩

set_option maxHeartbeats 1600000 in
theorem law_cmp (a b c d : Int) (wa : (Lit.int .i64 a).wf = true) (wb : (Lit.int .i64 b).wf = true) (wc : (Lit.int .i64 c).wf = true) (wd : (Lit.int .i64 d).wf = true) (w : World) :
    Calls Try.prog 5 #[.agg #[.int .i64 a, .int .i64 b], .agg #[.int .i64 c, .int .i64 d]] w fun e w' => e = .returned (.bool true) ∧ Below w.heap.size w w' := by
  obtain ⟨ha, ha2⟩ := bounds_i64 wa
  obtain ⟨hb, hb2⟩ := bounds_i64 wb
  obtain ⟨hc, hc2⟩ := bounds_i64 wc
  obtain ⟨hd, hd2⟩ := bounds_i64 wd
  clear wa wb wc wd
  have hw : Below w.heap.size w ((w.alloc (.cells #[.int .i64 a, .int .i64 b] 25)).alloc (.cells #[.int .i64 c, .int .i64 d] 25)) := below_box2 (below_box _ _) _
  go_enter Try.func5, Try.ntmps5
  go_upto_region 1 with fail
  go_cut [5] from 7 to 11 (fun s5 wx => s5 = .int .i64 (cmpO a b c d) ∧ Below ((w.alloc (.cells #[.int .i64 a, .int .i64 b] 25)).alloc (.cells #[.int .i64 c, .int .i64 d] 25)).heap.size ((w.alloc (.cells #[.int .i64 a, .int .i64 b] 25)).alloc (.cells #[.int .i64 c, .int .i64 d] 25)) wx)
  case first =>
    go_region_with (first | (go_at_call 13; refine (to_ratio_w _ _ _).mono ?_; rintro e w1 ⟨rfl, rfl⟩) | (go_at_call 15; refine (spec_cmp a b c d _ ha ha2 hb hb2 hc hc2 hd hd2).mono ?_; rintro e w2 ⟨rfl, bl2⟩))
    all_goals
      go_wp2_with fail
      go_meet
      exact ⟨rfl, below_six _ _ _ _ _ _ bl2⟩
  case rest =>
    obtain ⟨rfl, bl⟩ := hcut
    obtain ⟨p0, p1, p2, p3, hz⟩ := boxed2 bl
    have hbw := hw.trans (bl.mono hw.size)
    clear hw bl
    have z0 : w.heap.size < wc.heap.size := by omega
    have z1 : w.heap.size < wc.heap.size + 1 := by omega
    have z2 : w.heap.size < wc.heap.size + 1 + 1 := by omega
    have z3 : w.heap.size + 1 < wc.heap.size + 1 + 1 := by omega
    go_upto_region 2 with fail
    go_cut [6] from 12 to 16 (fun s6 wx => s6 = .int .i64 (cmpO a b c d) ∧ Below wc.heap.size wc wx)
    case first =>
      go_region_with (first | (go_at_call 13; refine (to_ratio_w _ _ _).mono ?_; rintro e w1 ⟨rfl, rfl⟩) | (go_at_call 16; refine (impl_cmp a b c d _ ha ha2 hb hb2 hc hc2 hd hd2).mono ?_; rintro e w2 ⟨rfl, bl2⟩))
      all_goals
        go_wp2_with fail
        go_meet
        exact ⟨rfl, below_six _ _ _ _ _ _ bl2⟩
    case rest =>
      obtain ⟨rfl, bl⟩ := hcut
      generalize cmpO a b c d = r
      go_wp2_with fail
      go_ret
      exact ⟨rfl, hbw.trans (bl.mono hbw.size)⟩
end Go.Proofs.Ytplangahbabloaa
