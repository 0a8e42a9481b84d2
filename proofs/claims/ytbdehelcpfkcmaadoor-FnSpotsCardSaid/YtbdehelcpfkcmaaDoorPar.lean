/- The contracts of both ParseInt functions over the translation, and the walk of their law. -/
import Derived.Test.YtbdehelcpfkcmaaDoorNum
import Derived.Lib.AtoiErrMem
namespace Go.Proofs.YtbdehelcpfkcmaaDoor
open Go.RowKit

/-- what ParseInt must answer: the number and true, or 0 and false -/
def Answer (l : List UInt8) (r : Int) (b : Bool) : Prop := (b = true ∧ isNum l r) ∨ (b = false ∧ r = 0 ∧ ∀ v, ¬ isNum l v)
theorem Answer.ex (l : List UInt8) : ∃ r b, Answer l r b := by
  by_cases h : ∃ v, isNum l v
  · obtain ⟨v, hv⟩ := h
    exact ⟨v, true, .inl ⟨rfl, hv⟩⟩
  · exact ⟨0, false, .inr ⟨rfl, rfl, fun v hv => h ⟨v, hv⟩⟩⟩
theorem Answer.no {l : List UInt8} {r : Int} {b : Bool} (h : Answer l r b) (hn : ∀ v, ¬ isNum l v) : r = 0 ∧ b = false := by
  rcases h with ⟨_, h⟩ | ⟨h1, h2, _⟩
  · exact absurd h (hn _)
  · exact ⟨h2, h1⟩
theorem isNum.uniq {l : List UInt8} {v u : Int} (h : isNum l v) (k : isNum l u) : v = u := by
  have a := atoi_num l v h
  rw [atoi_num l u k] at a
  injection a with a
  exact a.symm
theorem Answer.yes {l : List UInt8} {r : Int} {b : Bool} (h : Answer l r b) {v : Int} (hv : isNum l v) : r = v ∧ b = true := by
  rcases h with ⟨h1, h⟩ | ⟨_, _, h⟩
  · exact ⟨h.uniq hv, h1⟩
  · exact absurd hv (h v)
theorem ret_pair {r r' : Int} {b b' : Bool} (h1 : r = r') (h2 : b = b') : Ending.returned (.tuple #[.int .i64 r, .bool b]) = .returned (.tuple #[.int .i64 r', .bool b']) := by rw [h1, h2]

theorem same_str (l : List UInt8) (s : ByteArray) : ((str l).toList == s.toList) = decide (l = s.data.toList) := by
  rw [ByteArray.toList_eq, ByteArray.toList_eq]
  by_cases h : l = s.data.toList
  · simp [str, h]
  · simp [str, h]

set_option maxHeartbeats 800000 in
theorem impl_par (s : ByteArray) (r : Int) (b : Bool) (w : World) (hs : s.size ≤ 1048576) (hr : Answer s.data.toList r b)
    (htab : Lib.TabIs Tryd.prog w "internal/strconv.uint64pow10" .u64 Lib.pow10Tab) (hsyn : ∃ tp p, w.var? Tryd.prog "strconv.ErrSyntax" = some #[.iface tp p]) (hran : ∃ tp p, w.var? Tryd.prog "strconv.ErrRange" = some #[.iface tp p]) :
    Calls Tryd.prog 45 #[.string s] w fun e w' => e = .returned (.tuple #[.int .i64 r, .bool b]) ∧ Below w.heap.size w w' := by
  have HR := Lib.hid hr
  have HT := Lib.hid htab
  have HS := Lib.hid hsyn
  have HN := Lib.hid hran
  clear hr htab hsyn hran
  cases ha : Lib.atoiAll s.data.toList with
  | ok v =>
    obtain ⟨v0, v1⟩ := atoi_range _ _ ha
    have HA := Lib.hid (Tryd.strconv_Atoi_ok s (by omega) v ha w)
    have HQ := Lib.hid ha
    clear ha
    go_enter Tryd.func45, Tryd.ntmps45
    go_wp2_with fail
    refine HA.out.mono ?_
    rintro e w1 ⟨rfl, hw⟩
    have hb1 : Below w.heap.size w w1 := by
      rcases hw with rfl | ⟨t, rfl⟩
      · exact Below.refl _ _
      · exact Lib.bytesWorld_below w 5 t
    have HT1 := Lib.hid (tab_below HT.out hb1)
    clear hw
    go_wp2_with fail
    refine (impl_fmt v _ v0 v1 HT1.out).mono ?_
    rintro e w2 ⟨rfl, hb2⟩
    have hb3 : Below w.heap.size w w2 := hb1.trans (hb2.mono hb1.size)
    have hq := same_str (Lib.itoa v) s
    by_cases hl : Lib.itoa v = s.data.toList
    · rw [decide_eq_true hl] at hq
      obtain ⟨rfl, rfl⟩ := HR.out.yes ⟨v0, v1, hl⟩
      clear hl
      generalize str (Lib.itoa r) = x at *
      go_wp2_with fail
      go_ret2
      exact ⟨rfl, hb3⟩
    · rw [decide_eq_false hl] at hq
      obtain ⟨rfl, rfl⟩ := HR.out.no (fun u hu => hl (by
        have := atoi_num _ u hu
        rw [HQ.out] at this
        injection this with this
        subst this
        exact hu.2.2))
      clear hl
      generalize str (Lib.itoa v) = x at *
      go_wp2_with fail
      go_ret2
      exact ⟨rfl, hb3⟩
  | range =>
    obtain ⟨tp, p, hv⟩ := HN.out
    have HA := Lib.hid (Tryd.strconv_Atoi_range_var s (by omega) ha tp p w hv)
    obtain ⟨rfl, rfl⟩ := HR.out.no (fun u hu => by rw [atoi_num _ u hu] at ha; cases ha)
    clear ha hv
    generalize Lib.atoiSat s.data.toList = sat at *
    go_enter Tryd.func45, Tryd.ntmps45
    go_wp2_with fail
    refine HA.out.mono ?_
    rintro e w1 ⟨N, rfl, _, _, hb1⟩
    go_wp2_with fail
    go_ret2
    exact ⟨rfl, hb1⟩
  | _ =>
    obtain ⟨tp, p, hv⟩ := HS.out
    have HA := Lib.hid (Tryd.strconv_Atoi_syn s (by omega) (by rw [ha]; rfl) tp p w hv)
    obtain ⟨rfl, rfl⟩ := HR.out.no (fun u hu => by rw [atoi_num _ u hu] at ha; cases ha)
    clear ha hv
    go_enter Tryd.func45, Tryd.ntmps45
    go_wp2_with fail
    refine HA.out.mono ?_
    rintro e w1 ⟨N, rfl, _, _, hb1⟩
    go_wp2_with fail
    go_ret2
    exact ⟨rfl, hb1⟩

theorem dv_take (t : ByteArray) (k : Nat) (h : k < t.size) : dvF 0 (t.data.toList.take (k + 1)) = dvF 0 (t.data.toList.take k) * 10 + (t[k].toNat - 48) := by
  rw [take_snoc t k h, dvF_append]; rfl
theorem digs_at (t : ByteArray) (h : digs t.data.toList = true) (k : Nat) (hk : k < t.size) : 48 ≤ t[k].toNat ∧ t[k].toNat ≤ 57 := by
  have h1 : allD t.data.toList = true := by unfold digs at h; simp at h; exact h.1
  have h2 : isD t[k] = true := by
    unfold allD at h1
    rw [List.all_eq_true] at h1
    exact h1 _ (List.getElem_mem (by simpa using hk : k < t.data.toList.length))
  simpa [isD] using h2
theorem dv_small : ∀ (k : Nat) (l : List UInt8), l.length ≤ k → allD l = true → dvF 0 l < 10 ^ k
  | 0, l, h, _ => by
    have : l = [] := List.length_eq_zero_iff.1 (by omega)
    subst this; simp [dvF]
  | k + 1, l, h, hd => by
    rcases List.eq_nil_or_concat l with rfl | ⟨a, c, rfl⟩
    · simpa [dvF] using Nat.pos_of_ne_zero (by simp)
    · simp only [List.concat_eq_append] at *
      unfold allD at hd
      rw [List.all_append] at hd
      simp only [Bool.and_eq_true, List.all_cons, List.all_nil] at hd
      have hc : 48 ≤ c.toNat ∧ c.toNat ≤ 57 := by simpa [isD] using hd.2
      have ih := dv_small k a (by simp at h; omega) hd.1
      rw [dvF_append]
      show dvF 0 a * 10 + (c.toNat - 48) < 10 ^ (k + 1)
      rw [Nat.pow_succ]; omega

/-- a sentinel stays where nothing below is written -/
theorem var_below {w w' : World} {n : String} {g : Nat} (h : ∃ tp p, w.var? Tryd.prog n = some #[.iface tp p]) (hb : Below w.heap.size w w') (hg : Tryd.prog.globalNamed n = some g) : ∃ tp p, w'.var? Tryd.prog n = some #[.iface tp p] := by
  obtain ⟨tp, p, hv⟩ := h
  refine ⟨tp, p, var?_below hb hg ?_ hv⟩
  have := World.var?_cell hg hv 0
  exact block_lt_of_cell (by simpa using this)
theorem tq (c : Nat) (h1 : 48 ≤ c) (h2 : c ≤ 57) : (-9223372036854775808 + ((c : Int) - 48)).tdiv 10 = -((9223372036854775808 - ((c : Int) - 48)) / 10) := by
  rw [show (-9223372036854775808 + ((c : Int) - 48)) = -(9223372036854775808 - ((c : Int) - 48)) by omega, Int.neg_tdiv, Int.tdiv_eq_ediv_of_nonneg (by omega)]
theorem over_no (x c : Nat) (h1 : 48 ≤ c) (h2 : c ≤ 57) (h : x * 10 + (c - 48) ≤ 9223372036854775808) : (-9223372036854775808 + ((c : Int) - 48)).tdiv 10 ≤ -(x : Int) := by
  rw [tq c h1 h2]; omega
theorem over_yes (x c : Nat) (h1 : 48 ≤ c) (h2 : c ≤ 57) (h : ¬ x * 10 + (c - 48) ≤ 9223372036854775808) : -(x : Int) < (-9223372036854775808 + ((c : Int) - 48)).tdiv 10 := by
  rw [tq c h1 h2]; omega

set_option maxHeartbeats 1600000 in
theorem spec_par_neg (s t : ByteArray) (r : Int) (b : Bool) (w : World) (hs : s.size ≤ 1048576) (h1 : 0 < s.size) (h45 : (s[0].toNat : Int) = 45) (ht : s.extract 1 s.size = t) (hl : s.data.toList = 45 :: t.data.toList) (hr : Answer s.data.toList r b) :
    Calls Tryd.prog 51 #[.string s] w fun e w' => e = .returned (.tuple #[.int .i64 r, .bool b]) ∧ Below w.heap.size w w' := by
  have hts : t.size ≤ 1048576 := by rw [← ht]; simp; omega
  have HR := Lib.hid hr
  have HL := Lib.hid hl
  clear hr hl
  have h45b : ((s[0].toNat : Int) == 45) = true := by simp [h45]
  clear h45
  go_enter Tryd.func51, Tryd.ntmps51
  go_wp2_with fail
  refine (spec_digits t _ (by unfold maxLen; omega)).mono ?_
  rintro e w' ⟨rfl, rfl⟩
  clear ht
  cases hd : digs t.data.toList with
  | false =>
    obtain ⟨rfl, rfl⟩ := HR.out.no (fun v hv => by rw [HL.out] at hv; have := (num_neg _ v hv).2.1; rw [hd] at this; cases this)
    clear hd
    go_wp2_with fail
    go_ret2
    exact ⟨rfl, Below.refl _ _⟩
  | true =>
    by_cases h19 : 19 < t.size
    · obtain ⟨rfl, rfl⟩ := HR.out.no (fun v hv => by rw [HL.out] at hv; have := (num_neg _ v hv).2.2.1; simp at this; omega)
      clear hd
      go_wp2_with fail
      go_ret2
      exact ⟨rfl, Below.refl _ _⟩
    have h19b : decide (19 < t.size) = false := by simpa using h19
    have HD := Lib.hid hd
    clear hd
    go_wp2_with fail
    clear h19b
    go_loop [6, 7, 8] (fun n i _ => ∃ k : Nat, k ≤ t.size ∧ i = .int .i64 k ∧ dvF 0 (t.data.toList.take k) ≤ 9223372036854775808 ∧ n = .int .i64 (-(dvF 0 (t.data.toList.take k) : Nat))) (fun _ i _ => t.size - (intOf i).toNat)
    case atStart => exact ⟨0, Nat.zero_le _, rfl, by simp [dvF], by simp [dvF]⟩
    case round =>
      obtain ⟨k, hk, rfl, hx, rfl⟩ := hrel
      by_cases hlt : k < t.size
      · have hc := digs_at t HD.out k hlt
        obtain ⟨hc1, hc2⟩ := hc
        have HV := Lib.hid (dv_take t k hlt)
        generalize dvF 0 (t.data.toList.take k) = x at *
        have hle := dvF_take t.data.toList (k + 1)
        by_cases ho : x * 10 + (t[k].toNat - 48) ≤ 9223372036854775808
        · have htest := over_no x t[k].toNat hc1 hc2 ho
          have hx2 : x ≤ 922337203685477580 := by omega
          clear hle
          go_wp2_with fail
          go_round
          case rel => exact ⟨k + 1, by omega, by go_num, by rw [HV.out]; exact ho, by rw [HV.out]; go_num⟩
          case measure => simp [intOf]; omega
        · have htest := over_yes x t[k].toNat hc1 hc2 ho
          rw [HV.out] at hle
          obtain ⟨rfl, rfl⟩ := HR.out.no (fun v hv => by rw [HL.out] at hv; have := (num_neg _ v hv).2.2.2; omega)
          clear hle ho
          go_wp2_with fail
          go_ret2
          exact ⟨rfl, Below.refl _ _⟩
      · have e : t.data.toList.take k = t.data.toList := List.take_of_length_le (by simp; omega)
        rw [e] at hx ⊢
        clear e
        have HX := Lib.hid (fun v hv => (num_neg t.data.toList v hv).1)
        generalize dvF 0 t.data.toList = x at *
        go_wp2_with fail
        refine (spec_fmt (-(x : Int)) _ (by omega) (by omega)).mono ?_
        rintro e w2 ⟨rfl, hb2⟩
        have hq := same_str (Lib.itoa (-(x : Int))) s
        by_cases hl : Lib.itoa (-(x : Int)) = s.data.toList
        · rw [decide_eq_true hl] at hq
          obtain ⟨rfl, rfl⟩ := HR.out.yes ⟨by omega, by omega, hl⟩
          clear hl
          generalize str (Lib.itoa (-(x : Int))) = y at *
          go_wp2_with fail
          go_ret2
          exact ⟨rfl, hb2⟩
        · rw [decide_eq_false hl] at hq
          obtain ⟨rfl, rfl⟩ := HR.out.no (fun u hu => hl (by
            have h3 := hu.2.2
            rw [HL.out] at hu
            rw [← HX.out u hu]; exact h3))
          clear hl
          generalize str (Lib.itoa (-(x : Int))) = y at *
          go_wp2_with fail
          go_ret2
          exact ⟨rfl, hb2⟩
set_option maxHeartbeats 1600000 in
theorem spec_par_pos (t : ByteArray) (r : Int) (b : Bool) (w : World) (hts : t.size ≤ 1048576) (h1 : 0 < t.size) (h45 : ¬ (t[0].toNat : Int) = 45) (hl : ∀ q, t.data.toList ≠ 45 :: q) (hr : Answer t.data.toList r b) :
    Calls Tryd.prog 51 #[.string t] w fun e w' => e = .returned (.tuple #[.int .i64 r, .bool b]) ∧ Below w.heap.size w w' := by
  have HR := Lib.hid hr
  have HL := Lib.hid hl
  clear hr hl
  have h45b : ((t[0].toNat : Int) == 45) = false := by simpa using h45
  clear h45
  go_enter Tryd.func51, Tryd.ntmps51
  go_wp2_with fail
  refine (spec_digits t _ (by unfold maxLen; omega)).mono ?_
  rintro e w' ⟨rfl, rfl⟩
  cases hd : digs t.data.toList with
  | false =>
    obtain ⟨rfl, rfl⟩ := HR.out.no (fun v hv => by have := (num_pos _ v HL.out hv).2.1; rw [hd] at this; cases this)
    clear hd
    go_wp2_with fail
    go_ret2
    exact ⟨rfl, Below.refl _ _⟩
  | true =>
    by_cases h19 : 19 < t.size
    · obtain ⟨rfl, rfl⟩ := HR.out.no (fun v hv => by have := (num_pos _ v HL.out hv).2.2.1; simp at this; omega)
      clear hd
      go_wp2_with fail
      go_ret2
      exact ⟨rfl, Below.refl _ _⟩
    have h19b : decide (19 < t.size) = false := by simpa using h19
    have HD := Lib.hid hd
    clear hd
    go_wp2_with fail
    clear h19b
    go_loop [6, 7, 8] (fun n i _ => ∃ k : Nat, k ≤ t.size ∧ i = .int .i64 k ∧ dvF 0 (t.data.toList.take k) ≤ 9223372036854775808 ∧ n = .int .i64 (-(dvF 0 (t.data.toList.take k) : Nat))) (fun _ i _ => t.size - (intOf i).toNat)
    case atStart => exact ⟨0, Nat.zero_le _, rfl, by simp [dvF], by simp [dvF]⟩
    case round =>
      obtain ⟨k, hk, rfl, hx, rfl⟩ := hrel
      by_cases hlt : k < t.size
      · have hc := digs_at t HD.out k hlt
        obtain ⟨hc1, hc2⟩ := hc
        have HV := Lib.hid (dv_take t k hlt)
        generalize dvF 0 (t.data.toList.take k) = x at *
        have hle := dvF_take t.data.toList (k + 1)
        by_cases ho : x * 10 + (t[k].toNat - 48) ≤ 9223372036854775808
        · have htest := over_no x t[k].toNat hc1 hc2 ho
          have hx2 : x ≤ 922337203685477580 := by omega
          clear hle
          go_wp2_with fail
          go_round
          case rel => exact ⟨k + 1, by omega, by go_num, by rw [HV.out]; exact ho, by rw [HV.out]; go_num⟩
          case measure => simp [intOf]; omega
        · have htest := over_yes x t[k].toNat hc1 hc2 ho
          rw [HV.out] at hle
          obtain ⟨rfl, rfl⟩ := HR.out.no (fun v hv => by have := (num_pos _ v HL.out hv).2.2.2; omega)
          clear hle ho
          go_wp2_with fail
          go_ret2
          exact ⟨rfl, Below.refl _ _⟩
      · have e : t.data.toList.take k = t.data.toList := List.take_of_length_le (by simp; omega)
        rw [e] at hx ⊢
        clear e
        have HX := Lib.hid (fun v hv => (num_pos t.data.toList v HL.out hv).1)
        by_cases hmin : dvF 0 t.data.toList = 9223372036854775808
        · have hm : (-((dvF 0 t.data.toList : Nat) : Int) == -9223372036854775808) = true := by rw [hmin]; rfl
          obtain ⟨rfl, rfl⟩ := HR.out.no (fun v hv => by have := (num_pos _ v HL.out hv).2.2.2; omega)
          clear hmin
          generalize dvF 0 t.data.toList = x at *
          go_wp2_with fail
          go_ret2
          exact ⟨rfl, Below.refl _ _⟩
        have hm : (-((dvF 0 t.data.toList : Nat) : Int) == -9223372036854775808) = false := by simp; omega
        generalize dvF 0 t.data.toList = x at *
        have hx3 : x ≤ 9223372036854775807 := by omega
        clear hmin hx
        go_wp2_with fail
        refine (spec_fmt (x : Int) _ (by omega) (by omega)).mono ?_
        rintro e w2 ⟨rfl, hb2⟩
        have hq := same_str (Lib.itoa (x : Int)) t
        by_cases hl : Lib.itoa (x : Int) = t.data.toList
        · rw [decide_eq_true hl] at hq
          obtain ⟨rfl, rfl⟩ := HR.out.yes ⟨by omega, by omega, hl⟩
          clear hl
          generalize str (Lib.itoa (x : Int)) = y at *
          go_wp2_with fail
          go_ret2
          exact ⟨rfl, hb2⟩
        · rw [decide_eq_false hl] at hq
          obtain ⟨rfl, rfl⟩ := HR.out.no (fun u hu => hl (by
            have h3 := hu.2.2
            rw [← HX.out u hu]; exact h3))
          clear hl
          generalize str (Lib.itoa (x : Int)) = y at *
          go_wp2_with fail
          go_ret2
          exact ⟨rfl, hb2⟩

theorem spec_par_nil (t : ByteArray) (r : Int) (b : Bool) (w : World) (h1 : t.size = 0) (hr : Answer t.data.toList r b) :
    Calls Tryd.prog 51 #[.string t] w fun e w' => e = .returned (.tuple #[.int .i64 r, .bool b]) ∧ Below w.heap.size w w' := by
  have ht : t = ByteArray.empty := by
    apply ByteArray.ext
    exact Array.eq_empty_of_size_eq_zero h1
  subst ht
  obtain ⟨rfl, rfl⟩ := hr.no (fun v hv => by have := atoi_num _ v hv; simp [Lib.atoiAll] at this)
  clear h1 hr
  go_enter Tryd.func51, Tryd.ntmps51
  go_wp2_with fail
  refine (spec_digits ByteArray.empty _ (by decide)).mono ?_
  rintro e w' ⟨rfl, rfl⟩
  rw [show digs (ByteArray.empty : ByteArray).data.toList = false from rfl]
  go_wp2_with fail
  go_ret2
  exact ⟨rfl, Below.refl _ _⟩

theorem spec_par (s : ByteArray) (r : Int) (b : Bool) (w : World) (hs : s.size ≤ 1048576) (hr : Answer s.data.toList r b) :
    Calls Tryd.prog 51 #[.string s] w fun e w' => e = .returned (.tuple #[.int .i64 r, .bool b]) ∧ Below w.heap.size w w' := by
  by_cases h0 : s.size = 0
  · exact spec_par_nil s r b w h0 hr
  have h1 : 0 < s.size := by omega
  have hh : s.data.toList = s[0] :: s.data.toList.drop 1 := by
    have := split_at s 0 h1
    simpa using this
  by_cases h45 : (s[0].toNat : Int) = 45
  · refine spec_par_neg s _ r b w hs h1 h45 rfl ?_ hr
    have e : s[0] = 45 := UInt8.toNat_inj.1 (by have : s[0].toNat = 45 := by omega
                                                rw [this]; rfl)
    rw [e] at hh
    rw [Lib.extract_data, List.take_of_length_le (by simp)]
    exact hh
  · refine spec_par_pos s r b w hs h1 h45 (fun q hq => ?_) hr
    rw [hh] at hq
    injection hq with e1 e2
    rw [e1] at h45
    exact h45 rfl

end Go.Proofs.YtbdehelcpfkcmaaDoor
