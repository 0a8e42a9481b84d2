/- The contracts of the laws' makers of spots, over the translation: with few imports, for the seats that do not print. The contracts of both TighterHalf functions over the translation, and the walk of their law. The walk of TighterHalf's law. The contracts of both CrossingOf functions over the translation. The walk of CrossingOf's law. The contracts of the laws' makers of half planes and of whole spots, over the translation. What the law FnAngles rests on: of two directions exactly one comes first, or they are the same; a half plane whose border is moved in is the tighter one. What the law FnHalves rests on: the other side of a border, and the crossing of two borders lies on both. -/
import Derived.Test.YtibkmhmeoelpdaaGreatSpo
import Derived.Test.YtibkmhmeoelpdaaGreatTs
import Derived.Test.YtibkmhmeoelpdaaGreatHpc
import Derived.Test.YtibkmhmeoelpdaaGreatHm
namespace Go.Proofs.YtibkmhmeoelpdaaGreat
open Go.RowKit
theorem drawn_below {w w' : World} {g len cap : Nat} {a : Option Addr} (h : Cur w g a len cap) (hb : Below w.heap.size w w') : Drawn g a len cap w w' := by
  have hg : g < w.heap.size := by obtain ⟨_, _, hq, _⟩ := h; exact lt_of_block hq
  exact ⟨⟨hb.os, hb.tape, hb.output, hb.size, fun k hk _ => hb.block k hk⟩, h.kept (hb.block g hg)⟩
/-- the sum of the magnitudes -/
def lenH (a b : Int) : Int := (a.natAbs : Int) + (b.natAbs : Int)
/-- what TighterHalf answers -/
def tigH (a b c x y d : Int) : Value := if sdH a b c x y d = true then (if d * lenH a b < c * lenH x y then .agg #[.int .i64 x, .int .i64 y, .int .i64 d] else .agg #[.int .i64 a, .int .i64 b, .int .i64 c]) else .agg #[.int .i64 0, .int .i64 0, .int .i64 0]
theorem sdH_ok {a b c x y d : Int} (h : sdH a b c x y d = true) : okH a b c = true ∧ okH x y d = true := by
  unfold sdH at h
  simp only [Bool.and_eq_true] at h
  exact h.1
theorem len_in {a b c x y d : Int} (h : okH a b c = true) (k : okH x y d = true) : 0 ≤ lenH a b ∧ lenH a b ≤ 100000 ∧ -10000000000000 ≤ d * lenH a b ∧ d * lenH a b ≤ 10000000000000 := by
  obtain ⟨a1, a2, b1, b2, _⟩ := (okH_iff _ _ _).1 h
  obtain ⟨_, _, _, _, _, d1, d2, _⟩ := (okH_iff _ _ _).1 k
  have l : 0 ≤ lenH a b ∧ lenH a b ≤ 100000 := by unfold lenH; omega
  have m := mul_in d (lenH a b) 100000000 100000 d1 d2 (by omega) (by omega)
  omega

set_option maxHeartbeats 3200000 in
theorem spec_tig (a b c x y d : Int) (w : World) (ha : -9223372036854775808 ≤ a) (ha2 : a ≤ 9223372036854775807) (hb : -9223372036854775808 ≤ b) (hb2 : b ≤ 9223372036854775807) (hc : -9223372036854775808 ≤ c) (hc2 : c ≤ 9223372036854775807) (hx : -9223372036854775808 ≤ x) (hx2 : x ≤ 9223372036854775807) (hy : -9223372036854775808 ≤ y) (hy2 : y ≤ 9223372036854775807) (hd : -9223372036854775808 ≤ d) (hd2 : d ≤ 9223372036854775807) :
    Calls Tryz.prog 165 #[.agg #[.int .i64 a, .int .i64 b, .int .i64 c], .agg #[.int .i64 x, .int .i64 y, .int .i64 d]] w fun e w' => e = .returned (tigH a b c x y d) ∧ Below w.heap.size w w' := by
  have HO := Lib.hid (fun W => spec_sd a b c x y d W ha ha2 hb hb2 hc hc2 hx hx2 hy hy2 hd hd2)
  cases hk : sdH a b c x y d with
  | false =>
    rw [show tigH a b c x y d = .agg #[.int .i64 0, .int .i64 0, .int .i64 0] from if_neg (by rw [hk]; simp)]
    rw [hk] at HO
    clear hk
    go_enter Tryz.func165, Tryz.ntmps165
    go_wp2_with fail
    refine (HO.out _).mono ?_
    rintro e w1 ⟨rfl, bl1⟩
    obtain ⟨⟨q0, q1, q2, _, _, _⟩, ⟨r0, r1, r2, _, _, _⟩, ⟨p0, p1, p2, f0, f1, f2⟩, hbw⟩ := sboxes3 bl1
    clear bl1
    clear HO
    go_wp2_with fail
    refine bodyPost_ret (v := .agg #[.int .i64 0, .int .i64 0, .int .i64 0]) (by simp [results, Tryz.results165, go_sem, p0, p1, p2]) rfl ⟨rfl, ?_⟩
    exact below_set3 _ _ _ hbw (by omega)
  | true =>
    obtain ⟨k1, k2⟩ := sdH_ok hk
    obtain ⟨l0, l1, l2, l3⟩ := len_in k1 k2
    obtain ⟨n0, n1, n2, n3⟩ := len_in k2 k1
    obtain ⟨a1, a2, b1, b2, _, c1, c2, _⟩ := (okH_iff _ _ _).1 k1
    obtain ⟨x1, x2, y1, y2, _, d1, d2, _⟩ := (okH_iff _ _ _).1 k2
    have t : tigH a b c x y d = if d * lenH a b < c * lenH x y then .agg #[.int .i64 x, .int .i64 y, .int .i64 d] else .agg #[.int .i64 a, .int .i64 b, .int .i64 c] := if_pos hk
    rw [t]
    rw [hk] at HO
    clear hk k1 k2 t
    by_cases hlt : d * lenH a b < c * lenH x y
    · rw [if_pos hlt]
      generalize hL : lenH a b = L at *
      generalize hM : lenH x y = M at *
      have HL := Lib.hid hL
      have HM := Lib.hid hM
      clear hL hM
      generalize e1 : d * L = P at *
      generalize e2 : c * M = Q at *
      go_enter Tryz.func165, Tryz.ntmps165
      go_wp2_with fail
      refine (HO.out _).mono ?_
      rintro e w1 ⟨rfl, bl1⟩
      obtain ⟨⟨q0, q1, q2, _, _, _⟩, ⟨r0, r1, r2, _, _, _⟩, ⟨p0, p1, p2, f0, f1, f2⟩, hbw⟩ := sboxes3 bl1
      clear bl1
      clear HO
      go_upto_region 3 with fail
      go_cut [5] from 12 to 24 (fun s wx => s = .int .i64 L ∧ wx = w1)
      case first =>
        go_wp2_with fail
        all_goals
          go_meet
          exact ⟨by rw [← HL.out]; unfold lenH; congr 1; omega, rfl⟩
      case rest =>
        obtain ⟨rfl, rfl⟩ := hcut
        go_upto_region 4 with fail
        go_cut [6] from 25 to 37 (fun s wx => s = .int .i64 M ∧ wx = wc)
        case first =>
          go_wp2_with fail
          all_goals
            go_meet
            exact ⟨by rw [← HM.out]; unfold lenH; congr 1; omega, rfl⟩
        case rest =>
          obtain ⟨rfl, rfl⟩ := hcut
          go_wp2_with fail
          refine bodyPost_ret (v := .agg #[.int .i64 x, .int .i64 y, .int .i64 d]) (by simp [results, Tryz.results165, go_sem, p0, p1, p2]) rfl ⟨rfl, ?_⟩
          exact below_set3 _ _ _ hbw (by omega)
    · rw [if_neg hlt]
      generalize hL : lenH a b = L at *
      generalize hM : lenH x y = M at *
      have HL := Lib.hid hL
      have HM := Lib.hid hM
      clear hL hM
      generalize e1 : d * L = P at *
      generalize e2 : c * M = Q at *
      go_enter Tryz.func165, Tryz.ntmps165
      go_wp2_with fail
      refine (HO.out _).mono ?_
      rintro e w1 ⟨rfl, bl1⟩
      obtain ⟨⟨q0, q1, q2, _, _, _⟩, ⟨r0, r1, r2, _, _, _⟩, ⟨p0, p1, p2, f0, f1, f2⟩, hbw⟩ := sboxes3 bl1
      clear bl1
      clear HO
      go_upto_region 3 with fail
      go_cut [5] from 12 to 24 (fun s wx => s = .int .i64 L ∧ wx = w1)
      case first =>
        go_wp2_with fail
        all_goals
          go_meet
          exact ⟨by rw [← HL.out]; unfold lenH; congr 1; omega, rfl⟩
      case rest =>
        obtain ⟨rfl, rfl⟩ := hcut
        go_upto_region 4 with fail
        go_cut [6] from 25 to 37 (fun s wx => s = .int .i64 M ∧ wx = wc)
        case first =>
          go_wp2_with fail
          all_goals
            go_meet
            exact ⟨by rw [← HM.out]; unfold lenH; congr 1; omega, rfl⟩
        case rest =>
          obtain ⟨rfl, rfl⟩ := hcut
          go_wp2_with fail
          refine bodyPost_ret (v := .agg #[.int .i64 a, .int .i64 b, .int .i64 c]) (by simp [results, Tryz.results165, go_sem, p0, p1, p2]) rfl ⟨rfl, ?_⟩
          exact below_set3 _ _ _ hbw (by omega)

/-- a struct of three ints that lies in a new block -/
def LiesT (T : TypeId) (W : World) (x y d : Int) (v : Value) (wx : World) : Prop := ∃ g, v = .pointer (some ⟨g, 0, none⟩) ∧ W.heap.size ≤ g ∧ wx.heap[g]? = some (.cells #[.int .i64 x, .int .i64 y, .int .i64 d] T (0, 0)) ∧ Below W.heap.size W wx

/-- the crossing of two borders -/
def crsV (a b c x y d : Int) : Value := if a * y - b * x < 0 then ansS (-(c * y - b * d)) (-(a * d - c * x)) (-(a * y - b * x)) else ansS (c * y - b * d) (a * d - c * x) (a * y - b * x)
/-- what CrossingOf answers -/
def crsH (a b c x y d : Int) : Value := if okH a b c = true ∧ okH x y d = true then crsV a b c x y d else zeroS
theorem crsV_ex (a b c x y d : Int) : ∃ X Y D : Int, ∃ B : Bool, crsV a b c x y d = .tuple #[.agg #[.int .i64 X, .int .i64 Y, .int .i64 D], .bool B] := by
  unfold crsV
  split
  · exact ansS_ex _ _ _
  · exact ansS_ex _ _ _
theorem crs_in {a b c x y d : Int} (h : okH a b c = true) (k : okH x y d = true) : (-5000000000000 ≤ c * y ∧ c * y ≤ 5000000000000) ∧ (-5000000000000 ≤ b * d ∧ b * d ≤ 5000000000000) ∧ (-5000000000000 ≤ a * d ∧ a * d ≤ 5000000000000) ∧ (-5000000000000 ≤ c * x ∧ c * x ≤ 5000000000000) := by
  obtain ⟨a1, a2, b1, b2, _, c1, c2, _⟩ := (okH_iff _ _ _).1 h
  obtain ⟨x1, x2, y1, y2, _, d1, d2, _⟩ := (okH_iff _ _ _).1 k
  have m1 := mul_in c y 100000000 50000 c1 c2 y1 y2
  have m2 := mul_in b d 50000 100000000 b1 b2 d1 d2
  have m3 := mul_in a d 50000 100000000 a1 a2 d1 d2
  have m4 := mul_in c x 100000000 50000 c1 c2 x1 x2
  exact ⟨by omega, by omega, by omega, by omega⟩

set_option maxHeartbeats 3200000 in
theorem spec_crs0 (a b c x y d : Int) (w : World) (h : okH a b c = true) (k : okH x y d = true) :
    Calls Tryz.prog 162 #[.agg #[.int .i64 a, .int .i64 b, .int .i64 c], .agg #[.int .i64 x, .int .i64 y, .int .i64 d]] w fun e w' => e = .returned (crsV a b c x y d) ∧ Below w.heap.size w w' := by
  obtain ⟨⟨m0, m1⟩, ⟨n0, n1⟩, _, _⟩ := turn_in h k
  obtain ⟨⟨s0, s1⟩, ⟨t0, t1⟩, ⟨u0, u1⟩, ⟨v0, v1⟩⟩ := crs_in h k
  clear h k
  have hw := below_bx2 (below_bx2 (below_box w (.cells #[.int .i64 a, .int .i64 b, .int .i64 c] 104)) (.cells #[.int .i64 x, .int .i64 y, .int .i64 d] 104)) (.cells #[.int .i64 0, .int .i64 0, .int .i64 0] 45)
  unfold crsV
  generalize e1 : a * y = P at *
  generalize e2 : b * x = Q at *
  generalize e3 : c * y = R at *
  generalize e4 : b * d = S at *
  generalize e5 : a * d = T at *
  generalize e6 : c * x = U at *
  have f2 : x * b = Q := by rw [Int.mul_comm]; exact e2
  have f4 : d * b = S := by rw [Int.mul_comm]; exact e4
  have f6 : x * c = U := by rw [Int.mul_comm]; exact e6
  by_cases hD : P - Q < 0
  · rw [if_pos hD]
    have HS := Lib.hid (fun W => spec_sof (-(R - S)) (-(T - U)) (-(P - Q)) W (by omega) (by omega) (by omega) (by omega) (by omega) (by omega))
    obtain ⟨X, Y, D, B, eA⟩ := ansS_ex (-(R - S)) (-(T - U)) (-(P - Q))
    rw [eA] at HS ⊢
    clear eA
    go_enter Tryz.func162, Tryz.ntmps162
    go_wp2_with fail
    refine (HS.out _).mono ?_
    rintro e w1 ⟨rfl, bl1⟩
    obtain ⟨_, _, ⟨p0, p1, p2, g0, g1, g2⟩, hbw⟩ := sboxes3 bl1
    clear bl1 HS
    go_wp2_with fail
    refine bodyPost_ret (v := .tuple #[.agg #[.int .i64 X, .int .i64 Y, .int .i64 D], .bool B]) (by simp [results, Tryz.results162, go_sem, p0, p1, p2]) rfl ⟨rfl, ?_⟩
    exact below_set3 _ _ _ hbw (by omega)
  · rw [if_neg hD]
    have HS := Lib.hid (fun W => spec_sof (R - S) (T - U) (P - Q) W (by omega) (by omega) (by omega) (by omega) (by omega) (by omega))
    obtain ⟨X, Y, D, B, eA⟩ := ansS_ex (R - S) (T - U) (P - Q)
    rw [eA] at HS ⊢
    clear eA
    go_enter Tryz.func162, Tryz.ntmps162
    go_wp2_with fail
    refine (HS.out _).mono ?_
    rintro e w1 ⟨rfl, bl1⟩
    obtain ⟨_, _, ⟨p0, p1, p2, g0, g1, g2⟩, hbw⟩ := sboxes3 bl1
    clear bl1 HS
    go_wp2_with fail
    refine bodyPost_ret (v := .tuple #[.agg #[.int .i64 X, .int .i64 Y, .int .i64 D], .bool B]) (by simp [results, Tryz.results162, go_sem, p0, p1, p2]) rfl ⟨rfl, ?_⟩
    exact below_set3 _ _ _ hbw (by omega)
set_option maxHeartbeats 3200000 in
theorem impl_crs (a b c x y d : Int) (w : World) (ha : -9223372036854775808 ≤ a) (ha2 : a ≤ 9223372036854775807) (hb : -9223372036854775808 ≤ b) (hb2 : b ≤ 9223372036854775807) (hc : -9223372036854775808 ≤ c) (hc2 : c ≤ 9223372036854775807) (hx : -9223372036854775808 ≤ x) (hx2 : x ≤ 9223372036854775807) (hy : -9223372036854775808 ≤ y) (hy2 : y ≤ 9223372036854775807) (hd : -9223372036854775808 ≤ d) (hd2 : d ≤ 9223372036854775807) :
    Calls Tryz.prog 82 #[.agg #[.int .i64 a, .int .i64 b, .int .i64 c], .agg #[.int .i64 x, .int .i64 y, .int .i64 d]] w fun e w' => e = .returned (crsH a b c x y d) ∧ Below w.heap.size w w' := by
  have HO := Lib.hid (fun W => impl_hok a b c W ha ha2 hb hb2 hc hc2)
  have HP := Lib.hid (fun W => impl_hok x y d W hx hx2 hy hy2 hd hd2)
  cases hk : okH a b c with
  | false =>
    rw [show crsH a b c x y d = zeroS from if_neg (by rw [hk]; simp)]
    unfold zeroS
    rw [hk] at HO
    clear hk
    go_enter Tryz.func82, Tryz.ntmps82
    go_wp2_with fail
    refine (HO.out _).mono ?_
    rintro e w1 ⟨rfl, bl1⟩
    obtain ⟨_, _, ⟨p0, p1, p2, g0, g1, g2⟩, hbw⟩ := sboxes3 bl1
    clear bl1 HO HP
    go_wp2_with fail
    refine bodyPost_ret (v := .tuple #[.agg #[.int .i64 0, .int .i64 0, .int .i64 0], .bool false]) (by simp [results, Tryz.results82, go_sem, p0, p1, p2]) rfl ⟨rfl, ?_⟩
    exact below_set3 _ _ _ hbw (by omega)
  | true =>
    cases hl : okH x y d with
    | false =>
      rw [show crsH a b c x y d = zeroS from if_neg (by rw [hl]; simp)]
      unfold zeroS
      rw [hk] at HO
      rw [hl] at HP
      clear hk hl
      go_enter Tryz.func82, Tryz.ntmps82
      go_wp2_with fail
      refine (HO.out _).mono ?_
      rintro e w1 ⟨rfl, bl1⟩
      obtain ⟨_, ⟨r0, r1, r2, _, _, _⟩, _, _⟩ := sboxes3 bl1
      go_wp2_with fail
      refine (HP.out _).mono ?_
      rintro e w2 ⟨rfl, bl2⟩
      obtain ⟨_, _, ⟨p0, p1, p2, g0, g1, g2⟩, hbw⟩ := sboxes3 (below_to bl1 bl2)
      clear bl1 bl2 HO HP r0 r1 r2
      go_wp2_with fail
      refine bodyPost_ret (v := .tuple #[.agg #[.int .i64 0, .int .i64 0, .int .i64 0], .bool false]) (by simp [results, Tryz.results82, go_sem, p0, p1, p2]) rfl ⟨rfl, ?_⟩
      exact below_set3 _ _ _ hbw (by omega)
    | true =>
      rw [show crsH a b c x y d = crsV a b c x y d from if_pos ⟨hk, hl⟩]
      have HT := Lib.hid (fun W => impl_turn a b c x y d W hk hl)
      obtain ⟨⟨m0, m1⟩, ⟨n0, n1⟩, _, _⟩ := turn_in hk hl
      obtain ⟨⟨s0, s1⟩, ⟨t0, t1⟩, ⟨u0, u1⟩, ⟨v0, v1⟩⟩ := crs_in hk hl
      rw [hk] at HO
      rw [hl] at HP
      clear hk hl
      unfold crsV
      generalize e1 : a * y = P at *
      generalize e2 : b * x = Q at *
      generalize e3 : c * y = R at *
      generalize e4 : b * d = S at *
      generalize e5 : a * d = T at *
      generalize e6 : c * x = U at *
      by_cases hD : P - Q < 0
      · rw [if_pos hD]
        have HS := Lib.hid (fun W => impl_sof (-(R - S)) (-(T - U)) (-(P - Q)) W (by omega) (by omega) (by omega) (by omega) (by omega) (by omega))
        obtain ⟨X, Y, D, B, eA⟩ := ansS_ex (-(R - S)) (-(T - U)) (-(P - Q))
        rw [eA] at HS ⊢
        clear eA
        go_enter Tryz.func82, Tryz.ntmps82
        go_wp2_with fail
        refine (HO.out _).mono ?_
        rintro e w1 ⟨rfl, bl1⟩
        obtain ⟨_, ⟨r0, r1, r2, _, _, _⟩, _, _⟩ := sboxes3 bl1
        go_wp2_with fail
        refine (HP.out _).mono ?_
        rintro e w2 ⟨rfl, bl2⟩
        clear r0 r1 r2
        obtain ⟨⟨q0, q1, q2, _, _, _⟩, ⟨r0, r1, r2, _, _, _⟩, H3, hbw⟩ := sboxes3 (below_to bl1 bl2)
        clear bl1 bl2 HO HP
        go_wp2_with fail
        refine (HT.out _).mono ?_
        rintro e w3 ⟨rfl, bl3⟩
        have hq := three bl3 ⟨q0, q1, q2⟩
        have hr := three bl3 ⟨r0, r1, r2⟩
        have H4 := has3_to bl3 H3
        have hb4 := below_to hbw bl3
        clear bl3 HT H3 q0 q1 q2 r0 r1 r2 hbw
        obtain ⟨q0, q1, q2⟩ := hq
        obtain ⟨r0, r1, r2⟩ := hr
        go_wp2_with fail
        go_quiet (fail)
        clear q0 q1 q2 r0 r1 r2
        go_wp2_with fail
        refine (HS.out _).mono ?_
        rintro e w4 ⟨rfl, bl4⟩
        have bl5 := below_to (below_drew (Below.refl _ w3) _) bl4
        obtain ⟨p0, p1, p2, g0, g1, g2⟩ := has3_to bl5 H4
        have hfin := below_to hb4 bl5
        clear bl4 bl5 HS H4 hb4
        go_wp2_with fail
        refine bodyPost_ret (v := .tuple #[.agg #[.int .i64 X, .int .i64 Y, .int .i64 D], .bool B]) (by simp [results, Tryz.results82, go_sem, p0, p1, p2]) rfl ⟨rfl, ?_⟩
        exact below_set3 _ _ _ hfin (by omega)
      · rw [if_neg hD]
        have HS := Lib.hid (fun W => impl_sof (R - S) (T - U) (P - Q) W (by omega) (by omega) (by omega) (by omega) (by omega) (by omega))
        obtain ⟨X, Y, D, B, eA⟩ := ansS_ex (R - S) (T - U) (P - Q)
        rw [eA] at HS ⊢
        clear eA
        go_enter Tryz.func82, Tryz.ntmps82
        go_wp2_with fail
        refine (HO.out _).mono ?_
        rintro e w1 ⟨rfl, bl1⟩
        obtain ⟨_, ⟨r0, r1, r2, _, _, _⟩, _, _⟩ := sboxes3 bl1
        go_wp2_with fail
        refine (HP.out _).mono ?_
        rintro e w2 ⟨rfl, bl2⟩
        clear r0 r1 r2
        obtain ⟨⟨q0, q1, q2, _, _, _⟩, ⟨r0, r1, r2, _, _, _⟩, H3, hbw⟩ := sboxes3 (below_to bl1 bl2)
        clear bl1 bl2 HO HP
        go_wp2_with fail
        refine (HT.out _).mono ?_
        rintro e w3 ⟨rfl, bl3⟩
        have hq := three bl3 ⟨q0, q1, q2⟩
        have hr := three bl3 ⟨r0, r1, r2⟩
        have H4 := has3_to bl3 H3
        have hb4 := below_to hbw bl3
        clear bl3 HT H3 q0 q1 q2 r0 r1 r2 hbw
        obtain ⟨q0, q1, q2⟩ := hq
        obtain ⟨r0, r1, r2⟩ := hr
        go_wp2_with fail
        go_quiet (fail)
        clear q0 q1 q2 r0 r1 r2
        go_wp2_with fail
        refine (HS.out _).mono ?_
        rintro e w4 ⟨rfl, bl4⟩
        have bl5 := below_to (below_drew (Below.refl _ w3) _) bl4
        obtain ⟨p0, p1, p2, g0, g1, g2⟩ := has3_to bl5 H4
        have hfin := below_to hb4 bl5
        clear bl4 bl5 HS H4 hb4
        go_wp2_with fail
        refine bodyPost_ret (v := .tuple #[.agg #[.int .i64 X, .int .i64 Y, .int .i64 D], .bool B]) (by simp [results, Tryz.results82, go_sem, p0, p1, p2]) rfl ⟨rfl, ?_⟩
        exact below_set3 _ _ _ hfin (by omega)

/-- divided by what divides all three, the numbers are in lowest terms -/
theorem red_lowH {x y d X Y D : Int} (hg : 1 ≤ gS x y d) (hx : x = X * (gS x y d : Int)) (hy : y = Y * (gS x y d : Int)) (hD : d = D * (gS x y d : Int)) : gS X Y D = 1 := by
  refine gS_one fun k k1 k2 k3 => ?_
  have key : ∀ u U : Int, u = U * (gS x y d : Int) → (k : Int) ∣ U → ((k : Int) * (gS x y d : Int)) ∣ u := by
    rintro u U hu ⟨t, rfl⟩
    exact ⟨t, by rw [hu, Int.mul_assoc, Int.mul_assoc, Int.mul_comm t]⟩
  have h := dvd_gS (key x X hx k1) (key y Y hy k2) (key d D hD k3)
  generalize gS x y d = g at *
  have h' : k * g ∣ 1 * g := by
    rw [Nat.one_mul]
    exact Int.natCast_dvd_natCast.1 (by simpa using h)
  exact Nat.dvd_one.1 (Nat.dvd_of_mul_dvd_mul_right (by omega) h')
theorem div_in {x X g M : Int} (hg : 1 ≤ g) (h : x = X * g) (h1 : -M ≤ x) (h2 : x ≤ M) : -M ≤ X ∧ X ≤ M := by
  rcases Int.lt_or_le X 0 with k | k
  · have : X * g ≤ X * 1 := Int.mul_le_mul_of_nonpos_left (by omega) hg
    omega
  · have : X * 1 ≤ X * g := Int.mul_le_mul_of_nonneg_left hg k
    omega
/-- numbers within the limits that are not both 0 give a valid half plane -/
theorem has_half {a b c : Int} (h0 : a ≠ 0 ∨ b ≠ 0) (ha : -50000 ≤ a) (ha2 : a ≤ 50000) (hb : -50000 ≤ b) (hb2 : b ≤ 50000) (hc : -100000000 ≤ c) (hc2 : c ≤ 100000000) :
    ∃ A B C g : Int, ansH a b c = spotS A B C ∧ okH A B C = true ∧ 1 ≤ g ∧ a = A * g ∧ b = B * g ∧ c = C * g := by
  have hg := gS_posH (c := c) h0
  have ea : a = a.tdiv (gS a b c) * (gS a b c : Int) := (Int.tdiv_mul_cancel (gS_dvd_x a b c)).symm
  have eb : b = b.tdiv (gS a b c) * (gS a b c : Int) := (Int.tdiv_mul_cancel (gS_dvd_y a b c)).symm
  have ec : c = c.tdiv (gS a b c) * (gS a b c : Int) := (Int.tdiv_mul_cancel (gS_dvd_d a b c)).symm
  have one := red_lowH hg ea eb ec
  obtain ⟨a1, a2⟩ := div_in (by omega) ea ha ha2
  obtain ⟨b1, b2⟩ := div_in (by omega) eb hb hb2
  obtain ⟨c1, c2⟩ := div_in (by omega) ec hc hc2
  have nz : a.tdiv (gS a b c) ≠ 0 ∨ b.tdiv (gS a b c) ≠ 0 := by
    rcases h0 with h | h
    · left; intro q; rw [q] at ea; simp at ea; exact h ea
    · right; intro q; rw [q] at eb; simp at eb; exact h eb
  have ok : okH (a.tdiv (gS a b c)) (b.tdiv (gS a b c)) (c.tdiv (gS a b c)) = true := (okH_iff _ _ _).2 ⟨a1, a2, b1, b2, nz, c1, c2, one⟩
  exact ⟨_, _, _, (gS a b c : Int), ansH_yes (by rw [hasH_of h0]; exact ok), ok, by omega, ea, eb, ec⟩
theorem len_pos {A B : Int} (h : A ≠ 0 ∨ B ≠ 0) : 0 < lenH A B := by unfold lenH; omega

theorem half_in {a b c : Int} (h : okH a b c = true) : (-9223372036854775808 ≤ a ∧ a ≤ 9223372036854775807) ∧ (-9223372036854775808 ≤ b ∧ b ≤ 9223372036854775807) ∧ (-9223372036854775808 ≤ c ∧ c ≤ 9223372036854775807) := by
  obtain ⟨a1, a2, b1, b2, _, c1, c2, _⟩ := (okH_iff _ _ _).1 h
  omega
theorem bef_call {a b c x y d : Int} {r : Bool} (h : okH a b c = true) (k : okH x y d = true) (e : befV a b x y = r) (W : World) :
    Calls Tryz.prog 172 #[.agg #[.int .i64 a, .int .i64 b, .int .i64 c], .agg #[.int .i64 x, .int .i64 y, .int .i64 d]] W fun e w' => e = .returned (.bool r) ∧ Below W.heap.size W w' := by
  obtain ⟨⟨a1, a2⟩, ⟨b1, b2⟩, c1, c2⟩ := half_in h
  obtain ⟨⟨x1, x2⟩, ⟨y1, y2⟩, d1, d2⟩ := half_in k
  have := impl_bef a b c x y d W a1 a2 b1 b2 c1 c2 x1 x2 y1 y2 d1 d2
  rw [show befH a b c x y d = r by unfold befH; rw [h, k, e]; rfl] at this
  exact this
theorem crs_call {a b c x y d : Int} {v : Value} (h : okH a b c = true) (k : okH x y d = true) (e : crsH a b c x y d = v) (W : World) :
    Calls Tryz.prog 82 #[.agg #[.int .i64 a, .int .i64 b, .int .i64 c], .agg #[.int .i64 x, .int .i64 y, .int .i64 d]] W fun e w' => e = .returned v ∧ Below W.heap.size W w' := by
  obtain ⟨⟨a1, a2⟩, ⟨b1, b2⟩, c1, c2⟩ := half_in h
  obtain ⟨⟨x1, x2⟩, ⟨y1, y2⟩, d1, d2⟩ := half_in k
  have := impl_crs a b c x y d W a1 a2 b1 b2 c1 c2 x1 x2 y1 y2 d1 d2
  rw [e] at this
  exact this
theorem spot_in {x y d : Int} (h : okS x y d = true) : (-9223372036854775808 ≤ x ∧ x ≤ 9223372036854775807) ∧ (-9223372036854775808 ≤ y ∧ y ≤ 9223372036854775807) ∧ (-9223372036854775808 ≤ d ∧ d ≤ 9223372036854775807) := by
  obtain ⟨d1, d2, x1, x2, y1, y2, _⟩ := (okS_iff _ _ _).1 h
  omega
theorem holdc {a b c x y d : Int} {r : Bool} (h : okH a b c = true) (k : okS x y d = true) (e : decide (sideV a b c x y d ≤ 0) = r) (W : World) :
    Calls Tryz.prog 67 #[.agg #[.int .i64 a, .int .i64 b, .int .i64 c], .agg #[.int .i64 x, .int .i64 y, .int .i64 d]] W fun e w' => e = .returned (.bool r) ∧ Below W.heap.size W w' := by
  obtain ⟨⟨a1, a2⟩, ⟨b1, b2⟩, c1, c2⟩ := half_in h
  obtain ⟨⟨x1, x2⟩, ⟨y1, y2⟩, d1, d2⟩ := spot_in k
  have := impl_hold a b c x y d W a1 a2 b1 b2 c1 c2 x1 x2 y1 y2 d1 d2
  rw [show holdH a b c x y d = r by unfold holdH; rw [h, k, e]; rfl] at this
  exact this
end Go.Proofs.YtibkmhmeoelpdaaGreat
