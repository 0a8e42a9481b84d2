/- The walk of the law of SplitLines. -/
import Derived.Test.YtmmblmgeapogdaaLines
namespace Go.Proofs.Ytmmblmgeapogdaa
open Go.RowKit

theorem split_len (s by' : ByteArray) : (split s by').length ≤ s.size + 1 := by
  have := (sp_len s by' s.size).1
  unfold split; simp; omega
theorem lines_len (s : ByteArray) : (lines s).length ≤ s.size + 1 := by
  have h1 := (sp_len s nl s.size).1
  have h2 := split_len s nl
  unfold lines; split <;> omega

/-- eqStringS on two owned rows -/
theorem eq_own {w : World} {A B n : Nat} {va vb : Value} {xs : List ByteArray} (hA : w.ownsRow A 9 1 va n (xs.map Value.string)) (hB : w.ownsRow B 9 1 vb n (xs.map Value.string)) (hn : n ≤ 4194000) :
    Calls Try.prog 15 #[va, vb] w fun e w' => e = .returned (.bool true) ∧ ∃ q, w' = w.drewN q := by
  obtain ⟨hl, a, ca, rfl, hsa⟩ := own_view hA
  obtain ⟨_, b, cb, rfl, hsb⟩ := own_view hB
  exact eq_strs a b n ca cb xs w hl (by omega) hsa hsb
/-- heldStringS on an owned row of marks -/
theorem held_own {w : World} {B n : Nat} {v : Value} (h : w.ownsRow B 9 1 v n ((marks n).map Value.string)) (hn : n ≤ 4194000) :
    Calls Try.prog 17 #[v, .int .i64 1] w fun e w' => e = .returned (.int .i64 (n + 1)) ∧ Below w.heap.size w w' := by
  obtain ⟨_, a, ca, rfl, hs⟩ := own_view h
  exact held_strs a n ca w hn hs
/-- markStringS on an owned row -/
theorem mark_own {w : World} {B n : Nat} {v : Value} {xs : List ByteArray} (h : w.ownsRow B 9 1 v n (xs.map Value.string)) (hB : B ≤ w.heap.size) (hn : n ≤ 4194000) :
    Calls Try.prog 16 #[v, .int .i64 1] w fun e w' => e = .returned (.int .i64 (n + 1)) ∧ w'.ownsRow B 9 1 v n ((marks n).map Value.string) ∧ Below B w w' := by
  have hl : (xs.map Value.string).length = n := by have := h.1; simpa using this
  refine (mark_strs v n B _ w hn hB h).mono ?_
  rintro e w' ⟨he, ho, hb⟩
  exact ⟨he, by rw [← marked_marks n _ hl]; exact ho, hb⟩
/-- an owned row below what a call may touch -/
theorem own_keep {w w' : World} {A B n : Nat} {v : Value} {xs : List Value} (h : w.ownsRow A 9 1 v n xs) (hlt : ∀ g, v.ownBlock = some g → g < B) (hb : Below B w w') : w'.ownsRow A 9 1 v n xs := by
  refine ⟨h.1, ?_⟩
  rcases h.2 with h2 | ⟨g, cap, cur, hv, hg, hh, r⟩
  · exact .inl h2
  · refine .inr ⟨g, cap, cur, hv, hg, ?_, r⟩
    rw [hb.block g (hlt g (by rw [hv]; rfl))]; exact hh

set_option maxHeartbeats 1600000 in
theorem law_lines (s : ByteArray) (_hs : s.size ≤ maxLen) (w : World) :
    Calls Try.prog 6 #[.string s] w fun e w' => e = .returned (.bool true) ∧ Below w.heap.size w w' := by
  by_cases hb : (1048576 : Int) < (s.size : Int)
  · go_enter Try.func6, Try.ntmps6
    go_wp2
    go_ret
    exact ⟨rfl, Below.refl _ _⟩
  · have hs2 : s.size ≤ 1048576 := by omega
    have hn := lines_len s
    obtain ⟨n, hn2⟩ : ∃ n, n = (lines s).length := ⟨_, rfl⟩
    rw [← hn2] at hn
    have HN := Lib.hid hn2
    clear hn2
    go_enter Try.func6, Try.ntmps6
    go_wp2_with fail
    refine (spec_lines s _ hs2).mono ?_
    rintro e w1 ⟨v0, rfl, hown0, hb1⟩
    rw [← HN.out] at hown0
    have H0 := Lib.hid hown0
    clear hown0
    go_wp2_with fail
    refine (impl_lines s _ hs2).mono ?_
    rintro e w2 ⟨v1, rfl, hown1, hb2⟩
    rw [← HN.out] at hown1
    have H1 := Lib.hid hown1
    have H02 := Lib.hid (own_below H0.out hb2)
    have HLT := Lib.hid (fun g hg => (H0.out.lt g hg).2)
    clear hown1
    go_wp2_with fail
    refine (eq_own H1.out H02.out (by omega)).mono ?_
    rintro e w3 ⟨rfl, q, rfl⟩
    go_wp2_with fail
    refine (mark_own (own_drewN H1.out q) hb2.size (by omega)).mono ?_
    rintro e w4 ⟨rfl, hown4, hb4⟩
    have H4 := Lib.hid hown4
    have H04 := Lib.hid (own_keep (own_drewN H02.out q) HLT.out hb4)
    have hb24 : Below w1.heap.size w1 w4 := (below_drewN hb2 q).trans hb4
    clear hown4
    go_wp2_with fail
    refine (held_own H4.out (by omega)).mono ?_
    rintro e w5 ⟨rfl, hb5⟩
    have H5 := Lib.hid (own_below H4.out hb5)
    have H05 := Lib.hid (own_below H04.out hb5)
    go_wp2_with fail
    refine (impl_lines s _ hs2).mono ?_
    rintro e w6 ⟨v2, rfl, hown6, hb6⟩
    rw [← HN.out] at hown6
    have H6 := Lib.hid hown6
    have H56 := Lib.hid (own_below H5.out hb6)
    have H06 := Lib.hid (own_below H05.out hb6)
    clear hown6
    go_wp2_with fail
    refine (eq_own H6.out H06.out (by omega)).mono ?_
    rintro e w7 ⟨rfl, q2, rfl⟩
    go_wp2_with fail
    refine (held_own (own_drewN H56.out q2) (by omega)).mono ?_
    rintro e w8 ⟨rfl, hb8⟩
    go_wp2
    go_ret
    refine ⟨rfl, ?_⟩
    have z1 := hb1.size
    have z2 := hb24.size
    have z5 := hb5.size
    have z6 := hb6.size
    exact (((hb1.trans (hb24.mono z1)).trans (hb5.mono (by omega))).trans (hb6.mono (by omega))).trans ((below_drewN (Below.refl _ _) q2).trans (hb8.mono (by show w.heap.size ≤ w6.heap.size; omega)))
end Go.Proofs.Ytmmblmgeapogdaa
