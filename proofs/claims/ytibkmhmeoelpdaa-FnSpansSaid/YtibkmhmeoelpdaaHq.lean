/- The contracts of the laws' makers of spots, over the translation: with few imports, for the seats that do not print. The contracts of both TighterHalf functions over the translation, and the walk of their law. The walk of TighterHalf's law. The contracts of both CrossingOf functions over the translation. The walk of CrossingOf's law. The contracts of the laws' makers of half planes and of whole spots, over the translation. What the law FnAngles rests on: of two directions exactly one comes first, or they are the same; a half plane whose border is moved in is the tighter one. What the law FnHalves rests on: the other side of a border, and the crossing of two borders lies on both. -/
import Derived.Test.YtibkmhmeoelpdaaSpo
import Derived.Test.YtibkmhmeoelpdaaTs
import Derived.Test.YtibkmhmeoelpdaaHpc
import Derived.Test.YtibkmhmeoelpdaaHm
namespace Go.Proofs.Ytibkmhmeoelpdaa
open Go.RowKit

theorem ans_low {x y d : Int} (h : okS x y d = true) : ansS x y d = spotS x y d := by
  obtain ⟨h1, _, _, _, _, _, h7⟩ := (okS_iff _ _ _).1 h
  rw [ansS_if (X := x) (Y := y) (D := d) (g := 1) (by rw [h7]; rfl) h1 (Int.tdiv_one _) (Int.tdiv_one _) (Int.tdiv_one _), h]
  rfl
/-- divided by what divides all three, a spot is in lowest terms -/
theorem red_low {x y d X Y D : Int} (hd : 1 ≤ d) (hx : x = X * (gS x y d : Int)) (hy : y = Y * (gS x y d : Int)) (hD : d = D * (gS x y d : Int)) : gS X Y D = 1 := by
  have hg := gS_pos x y d hd
  refine gS_one fun k k1 k2 k3 => ?_
  have key : ∀ u U : Int, u = U * (gS x y d : Int) → (k : Int) ∣ U → ((k : Int) * (gS x y d : Int)) ∣ u := by
    rintro u U hu ⟨t, rfl⟩
    exact ⟨t, by rw [hu, Int.mul_assoc, Int.mul_assoc, Int.mul_comm t]⟩
  have h := dvd_gS (key x X hx k1) (key y Y hy k2) (key d D hD k3)
  generalize gS x y d = g at *
  have h' : k * g ∣ 1 * g := by
    rw [Nat.one_mul]
    exact Int.natCast_dvd_natCast.1 (by simpa using h)
  exact Nat.dvd_one.1 (Nat.dvd_of_mul_dvd_mul_right (by omega) h')
theorem mul_pos_of {D g d : Int} (hg : 1 ≤ g) (hd : 1 ≤ d) (h : d = D * g) : 1 ≤ D ∧ D ≤ d := by
  have h1 : 1 ≤ D := by
    rcases Int.lt_or_le D 1 with k | k
    · have : D * g ≤ 0 := Int.mul_nonpos_of_nonpos_of_nonneg (by omega) (by omega)
      omega
    · exact k
  have : D * 1 ≤ D * g := Int.mul_le_mul_of_nonneg_left hg (by omega)
  omega
/-- where the coordinates are within the limits there is a valid spot -/
theorem has_spot {x y d : Int} (h1 : 1 ≤ d) (h2 : d ≤ 5000000000) (hx : -(1000 * d) ≤ x) (hx2 : x ≤ 1000 * d) (hy : -(1000 * d) ≤ y) (hy2 : y ≤ 1000 * d) :
    ∃ X Y D g : Int, ansS x y d = spotS X Y D ∧ okS X Y D = true ∧ 1 ≤ g ∧ x = X * g ∧ y = Y * g ∧ d = D * g := by
  have hg : (1 : Int) ≤ (gS x y d : Int) := by have := gS_pos x y d h1; omega
  have ex : x = x.tdiv (gS x y d) * (gS x y d : Int) := (Int.tdiv_mul_cancel (gS_dvd_x x y d)).symm
  have ey : y = y.tdiv (gS x y d) * (gS x y d : Int) := (Int.tdiv_mul_cancel (gS_dvd_y x y d)).symm
  have ed : d = d.tdiv (gS x y d) * (gS x y d : Int) := (Int.tdiv_mul_cancel (gS_dvd_d x y d)).symm
  have hl := red_low h1 ex ey ed
  have hA := fun (h : hasS x y d = true) => ansS_yes h
  rw [hasS_of h1] at hA
  generalize hG : (gS x y d : Int) = g at *
  generalize x.tdiv g = X at *
  generalize y.tdiv g = Y at *
  generalize d.tdiv g = D at *
  obtain ⟨hD, hD2⟩ := mul_pos_of hg h1 ed
  have lim : ∀ u U : Int, u = U * g → -(1000 * d) ≤ u → u ≤ 1000 * d → -(1000 * D) ≤ U ∧ U ≤ 1000 * D := by
    intro u U hu k1 k2
    rw [hu, ed] at k1 k2
    constructor
    · have : -(1000 * D) * g ≤ U * g := by rw [Int.neg_mul, Int.mul_assoc]; exact k1
      exact Int.le_of_mul_le_mul_right this (by omega)
    · have : U * g ≤ 1000 * D * g := by rw [Int.mul_assoc]; exact k2
      exact Int.le_of_mul_le_mul_right this (by omega)
  obtain ⟨l1, l2⟩ := lim x X ex hx hx2
  obtain ⟨l3, l4⟩ := lim y Y ey hy hy2
  have hok : okS X Y D = true := (okS_iff _ _ _).2 ⟨hD, by omega, l1, l2, l3, l4, hl⟩
  exact ⟨X, Y, D, g, hA hok, hok, hg, ex, ey, ed⟩
/-- a valid spot, small -/
def SmallS (X Y D : Int) : Prop := okS X Y D = true ∧ -200 ≤ X ∧ X ≤ 200 ∧ -200 ≤ Y ∧ Y ≤ 200 ∧ 1 ≤ D ∧ D ≤ 10
theorem small_div {x X g : Int} (hg : 1 ≤ g) (h : x = X * g) (h1 : -200 ≤ x) (h2 : x ≤ 200) : -200 ≤ X ∧ X ≤ 200 := by
  rcases Int.lt_or_le X 0 with k | k
  · have : X * g ≤ X * 1 := Int.mul_le_mul_of_nonpos_left (by omega) hg
    omega
  · have : X * 1 ≤ X * g := Int.mul_le_mul_of_nonneg_left hg k
    omega
theorem small_spot (x y d : Int) (hx : -200 ≤ x) (hx2 : x ≤ 199) (hy : -200 ≤ y) (hy2 : y ≤ 199) (hd : 1 ≤ d) (hd2 : d ≤ 10) : ∃ X Y D : Int, ansS x y d = spotS X Y D ∧ SmallS X Y D := by
  obtain ⟨X, Y, D, g, hA, hok, hg, ex, ey, ed⟩ := has_spot (x := x) (y := y) hd (by omega) (by omega) (by omega) (by omega) (by omega)
  obtain ⟨x1, x2⟩ := small_div hg ex hx (by omega)
  obtain ⟨y1, y2⟩ := small_div hg ey hy (by omega)
  obtain ⟨d1, d2⟩ := mul_pos_of hg hd ed
  exact ⟨X, Y, D, hA, hok, x1, x2, y1, y2, d1, by omega⟩
theorem drawn_below {w w' : World} {g len cap : Nat} {a : Option Addr} (h : Cur w g a len cap) (hb : Below w.heap.size w w') : Drawn g a len cap w w' := by
  have hg : g < w.heap.size := by obtain ⟨_, _, hq, _⟩ := h; exact lt_of_block hq
  exact ⟨⟨hb.os, hb.tape, hb.output, hb.size, fun k hk _ => hb.block k hk⟩, h.kept (hb.block g hg)⟩
theorem drawn_set {w W : World} {g len cap b : Nat} {a : Option Addr} (hg : g < w.heap.size) (hb : w.heap.size ≤ b) (i : Nat) (v : Value) (h : Drawn g a len cap w W) : Drawn g a len cap w (W.setCell ⟨b, i, none⟩ v) := by
  refine ⟨⟨h.1.os, h.1.tape, h.1.output, ?_, ?_⟩, h.2.kept ?_⟩
  · have := h.1.size; simpa [World.setCell] using this
  · intro k hk hr
    rw [heap_setCell_other _ _ k _ (by simp; omega)]
    exact h.1.block k hk hr
  · rw [heap_setCell_other _ _ g _ (by simp; omega)]
theorem drawn_alloc {w W : World} {g len cap : Nat} {a : Option Addr} (hg : g < w.heap.size) (h : Drawn g a len cap w W) (o : Obj) : Drawn g a len cap w (W.alloc o) :=
  ⟨grown_trans h.1 (grown_alloc W o _), h.2.kept (Below.heap_alloc W o g (Nat.lt_of_lt_of_le hg h.1.size))⟩
/-- a drawn spot -/
def GaveS (g : Nat) (a : Option Addr) (len cap : Nat) (w : World) (e : Ending) (w' : World) : Prop := ∃ X Y D : Int, SmallS X Y D ∧ e = .returned (.agg #[.int .i64 X, .int .i64 Y, .int .i64 D]) ∧ Drawn g a len cap w w'
/-- a small valid spot, out of new memory alone -/
def MadeS (w : World) (e : Ending) (w' : World) : Prop := ∃ X Y D : Int, SmallS X Y D ∧ e = .returned (.agg #[.int .i64 X, .int .i64 Y, .int .i64 D]) ∧ Below w.heap.size w w'
/-- the sum of the magnitudes -/
def lenH (a b : Int) : Int := (a.natAbs : Int) + (b.natAbs : Int)
/-- what TighterHalf answers -/
def tigH (a b c x y d : Int) : Value := if sdH a b c x y d = true then (if d * lenH a b < c * lenH x y then .agg #[.int .i64 x, .int .i64 y, .int .i64 d] else .agg #[.int .i64 a, .int .i64 b, .int .i64 c]) else .agg #[.int .i64 0, .int .i64 0, .int .i64 0]
theorem tigH_ex (a b c x y d : Int) : ∃ X Y D : Int, tigH a b c x y d = .agg #[.int .i64 X, .int .i64 Y, .int .i64 D] := by
  unfold tigH
  split
  · split <;> exact ⟨_, _, _, rfl⟩
  · exact ⟨_, _, _, rfl⟩
theorem sdH_ok {a b c x y d : Int} (h : sdH a b c x y d = true) : okH a b c = true ∧ okH x y d = true := by
  unfold sdH at h
  simp only [Bool.and_eq_true] at h
  exact h.1
theorem len_in {a b c x y d : Int} (h : okH a b c = true) (k : okH x y d = true) : 0 ≤ lenH a b ∧ lenH a b ≤ 100000 ∧ -10000000000000 ≤ d * lenH a b ∧ d * lenH a b ≤ 10000000000000 := by
  obtain ⟨a1, a2, b1, b2, _⟩ := (okH_iff _ _ _).1 h
  obtain ⟨_, _, _, _, _, d1, d2, _⟩ := (okH_iff _ _ _).1 k
  have l : 0 ≤ lenH a b ∧ lenH a b ≤ 100000 := by unfold lenH; omega
  have m := mul_in d (lenH a b) 100000000 100000 d1 d2 (by omega) (by omega)
  omega

set_option maxHeartbeats 3200000 in
theorem spec_tig (a b c x y d : Int) (w : World) (ha : -9223372036854775808 ≤ a) (ha2 : a ≤ 9223372036854775807) (hb : -9223372036854775808 ≤ b) (hb2 : b ≤ 9223372036854775807) (hc : -9223372036854775808 ≤ c) (hc2 : c ≤ 9223372036854775807) (hx : -9223372036854775808 ≤ x) (hx2 : x ≤ 9223372036854775807) (hy : -9223372036854775808 ≤ y) (hy2 : y ≤ 9223372036854775807) (hd : -9223372036854775808 ≤ d) (hd2 : d ≤ 9223372036854775807) :
    Calls Try.prog 111 #[.agg #[.int .i64 a, .int .i64 b, .int .i64 c], .agg #[.int .i64 x, .int .i64 y, .int .i64 d]] w fun e w' => e = .returned (tigH a b c x y d) ∧ Below w.heap.size w w' := by
  have HO := Lib.hid (fun W => spec_sd a b c x y d W ha ha2 hb hb2 hc hc2 hx hx2 hy hy2 hd hd2)
  cases hk : sdH a b c x y d with
  | false =>
    rw [show tigH a b c x y d = .agg #[.int .i64 0, .int .i64 0, .int .i64 0] from if_neg (by rw [hk]; simp)]
    rw [hk] at HO
    clear hk
    go_enter Try.func111, Try.ntmps111
    go_wp2_with fail
    refine (HO.out _).mono ?_
    rintro e w1 ⟨rfl, bl1⟩
    obtain ⟨⟨q0, q1, q2, _, _, _⟩, ⟨r0, r1, r2, _, _, _⟩, ⟨p0, p1, p2, f0, f1, f2⟩, hbw⟩ := sboxes3 bl1
    clear bl1
    clear HO
    go_wp2_with fail
    refine bodyPost_ret (v := .agg #[.int .i64 0, .int .i64 0, .int .i64 0]) (by simp [results, Try.results111, go_sem, p0, p1, p2]) rfl ⟨rfl, ?_⟩
    exact below_set3 _ _ _ hbw (by omega)
  | true =>
    obtain ⟨k1, k2⟩ := sdH_ok hk
    obtain ⟨l0, l1, l2, l3⟩ := len_in k1 k2
    obtain ⟨n0, n1, n2, n3⟩ := len_in k2 k1
    obtain ⟨a1, a2, b1, b2, _, c1, c2, _⟩ := (okH_iff _ _ _).1 k1
    obtain ⟨x1, x2, y1, y2, _, d1, d2, _⟩ := (okH_iff _ _ _).1 k2
    have t : tigH a b c x y d = if d * lenH a b < c * lenH x y then .agg #[.int .i64 x, .int .i64 y, .int .i64 d] else .agg #[.int .i64 a, .int .i64 b, .int .i64 c] := if_pos hk
    rw [t]
    rw [hk] at HO
    clear hk k1 k2 t
    by_cases hlt : d * lenH a b < c * lenH x y
    · rw [if_pos hlt]
      generalize hL : lenH a b = L at *
      generalize hM : lenH x y = M at *
      have HL := Lib.hid hL
      have HM := Lib.hid hM
      clear hL hM
      generalize e1 : d * L = P at *
      generalize e2 : c * M = Q at *
      go_enter Try.func111, Try.ntmps111
      go_wp2_with fail
      refine (HO.out _).mono ?_
      rintro e w1 ⟨rfl, bl1⟩
      obtain ⟨⟨q0, q1, q2, _, _, _⟩, ⟨r0, r1, r2, _, _, _⟩, ⟨p0, p1, p2, f0, f1, f2⟩, hbw⟩ := sboxes3 bl1
      clear bl1
      clear HO
      go_upto_region 3 with fail
      go_cut [5] from 12 to 24 (fun s wx => s = .int .i64 L ∧ wx = w1)
      case first =>
        go_wp2_with fail
        all_goals
          go_meet
          exact ⟨by rw [← HL.out]; unfold lenH; congr 1; omega, rfl⟩
      case rest =>
        obtain ⟨rfl, rfl⟩ := hcut
        go_upto_region 4 with fail
        go_cut [6] from 25 to 37 (fun s wx => s = .int .i64 M ∧ wx = wc)
        case first =>
          go_wp2_with fail
          all_goals
            go_meet
            exact ⟨by rw [← HM.out]; unfold lenH; congr 1; omega, rfl⟩
        case rest =>
          obtain ⟨rfl, rfl⟩ := hcut
          go_wp2_with fail
          refine bodyPost_ret (v := .agg #[.int .i64 x, .int .i64 y, .int .i64 d]) (by simp [results, Try.results111, go_sem, p0, p1, p2]) rfl ⟨rfl, ?_⟩
          exact below_set3 _ _ _ hbw (by omega)
    · rw [if_neg hlt]
      generalize hL : lenH a b = L at *
      generalize hM : lenH x y = M at *
      have HL := Lib.hid hL
      have HM := Lib.hid hM
      clear hL hM
      generalize e1 : d * L = P at *
      generalize e2 : c * M = Q at *
      go_enter Try.func111, Try.ntmps111
      go_wp2_with fail
      refine (HO.out _).mono ?_
      rintro e w1 ⟨rfl, bl1⟩
      obtain ⟨⟨q0, q1, q2, _, _, _⟩, ⟨r0, r1, r2, _, _, _⟩, ⟨p0, p1, p2, f0, f1, f2⟩, hbw⟩ := sboxes3 bl1
      clear bl1
      clear HO
      go_upto_region 3 with fail
      go_cut [5] from 12 to 24 (fun s wx => s = .int .i64 L ∧ wx = w1)
      case first =>
        go_wp2_with fail
        all_goals
          go_meet
          exact ⟨by rw [← HL.out]; unfold lenH; congr 1; omega, rfl⟩
      case rest =>
        obtain ⟨rfl, rfl⟩ := hcut
        go_upto_region 4 with fail
        go_cut [6] from 25 to 37 (fun s wx => s = .int .i64 M ∧ wx = wc)
        case first =>
          go_wp2_with fail
          all_goals
            go_meet
            exact ⟨by rw [← HM.out]; unfold lenH; congr 1; omega, rfl⟩
        case rest =>
          obtain ⟨rfl, rfl⟩ := hcut
          go_wp2_with fail
          refine bodyPost_ret (v := .agg #[.int .i64 a, .int .i64 b, .int .i64 c]) (by simp [results, Try.results111, go_sem, p0, p1, p2]) rfl ⟨rfl, ?_⟩
          exact below_set3 _ _ _ hbw (by omega)

/-- a struct of three ints that lies in a new block -/
def LiesT (T : TypeId) (W : World) (x y d : Int) (v : Value) (wx : World) : Prop := ∃ g, v = .pointer (some ⟨g, 0, none⟩) ∧ W.heap.size ≤ g ∧ wx.heap[g]? = some (.cells #[.int .i64 x, .int .i64 y, .int .i64 d] T (0, 0)) ∧ Below W.heap.size W wx

set_option maxHeartbeats 800000 in
theorem to_half_w (x y d : Int) (w : World) :
    Calls Try.prog 27 #[.agg #[.int .i64 x, .int .i64 y, .int .i64 d]] w fun e w' => e = .returned (.agg #[.int .i64 x, .int .i64 y, .int .i64 d]) ∧ w' = ((w.alloc (.cells #[.int .i64 x, .int .i64 y, .int .i64 d] 50)).alloc (.cells #[.int .i64 x, .int .i64 y, .int .i64 d] 60)).alloc (.cells #[.int .i64 x, .int .i64 y, .int .i64 d] 60) := by
  go_enter Try.func27, Try.ntmps27
  go_wp2
  exact bodyPost_ret (v := .agg #[.int .i64 x, .int .i64 y, .int .i64 d]) (by simp [results, Try.results27, go_sem]) rfl ⟨rfl, rfl⟩

/-- the crossing of two borders -/
def crsV (a b c x y d : Int) : Value := if a * y - b * x < 0 then ansS (-(c * y - b * d)) (-(a * d - c * x)) (-(a * y - b * x)) else ansS (c * y - b * d) (a * d - c * x) (a * y - b * x)
/-- what CrossingOf answers -/
def crsH (a b c x y d : Int) : Value := if okH a b c = true ∧ okH x y d = true then crsV a b c x y d else zeroS
theorem crsV_ex (a b c x y d : Int) : ∃ X Y D : Int, ∃ B : Bool, crsV a b c x y d = .tuple #[.agg #[.int .i64 X, .int .i64 Y, .int .i64 D], .bool B] := by
  unfold crsV
  split
  · exact ansS_ex _ _ _
  · exact ansS_ex _ _ _
theorem crsH_ex (a b c x y d : Int) : ∃ X Y D : Int, ∃ B : Bool, crsH a b c x y d = .tuple #[.agg #[.int .i64 X, .int .i64 Y, .int .i64 D], .bool B] := by
  unfold crsH
  split
  · exact crsV_ex _ _ _ _ _ _
  · exact ⟨0, 0, 0, false, rfl⟩
theorem crs_in {a b c x y d : Int} (h : okH a b c = true) (k : okH x y d = true) : (-5000000000000 ≤ c * y ∧ c * y ≤ 5000000000000) ∧ (-5000000000000 ≤ b * d ∧ b * d ≤ 5000000000000) ∧ (-5000000000000 ≤ a * d ∧ a * d ≤ 5000000000000) ∧ (-5000000000000 ≤ c * x ∧ c * x ≤ 5000000000000) := by
  obtain ⟨a1, a2, b1, b2, _, c1, c2, _⟩ := (okH_iff _ _ _).1 h
  obtain ⟨x1, x2, y1, y2, _, d1, d2, _⟩ := (okH_iff _ _ _).1 k
  have m1 := mul_in c y 100000000 50000 c1 c2 y1 y2
  have m2 := mul_in b d 50000 100000000 b1 b2 d1 d2
  have m3 := mul_in a d 50000 100000000 a1 a2 d1 d2
  have m4 := mul_in c x 100000000 50000 c1 c2 x1 x2
  exact ⟨by omega, by omega, by omega, by omega⟩

/-- divided by what divides all three, the numbers are in lowest terms -/
theorem red_lowH {x y d X Y D : Int} (hg : 1 ≤ gS x y d) (hx : x = X * (gS x y d : Int)) (hy : y = Y * (gS x y d : Int)) (hD : d = D * (gS x y d : Int)) : gS X Y D = 1 := by
  refine gS_one fun k k1 k2 k3 => ?_
  have key : ∀ u U : Int, u = U * (gS x y d : Int) → (k : Int) ∣ U → ((k : Int) * (gS x y d : Int)) ∣ u := by
    rintro u U hu ⟨t, rfl⟩
    exact ⟨t, by rw [hu, Int.mul_assoc, Int.mul_assoc, Int.mul_comm t]⟩
  have h := dvd_gS (key x X hx k1) (key y Y hy k2) (key d D hD k3)
  generalize gS x y d = g at *
  have h' : k * g ∣ 1 * g := by
    rw [Nat.one_mul]
    exact Int.natCast_dvd_natCast.1 (by simpa using h)
  exact Nat.dvd_one.1 (Nat.dvd_of_mul_dvd_mul_right (by omega) h')
theorem div_in {x X g M : Int} (hg : 1 ≤ g) (h : x = X * g) (h1 : -M ≤ x) (h2 : x ≤ M) : -M ≤ X ∧ X ≤ M := by
  rcases Int.lt_or_le X 0 with k | k
  · have : X * g ≤ X * 1 := Int.mul_le_mul_of_nonpos_left (by omega) hg
    omega
  · have : X * 1 ≤ X * g := Int.mul_le_mul_of_nonneg_left hg k
    omega
/-- numbers within the limits that are not both 0 give a valid half plane -/
theorem has_half {a b c : Int} (h0 : a ≠ 0 ∨ b ≠ 0) (ha : -50000 ≤ a) (ha2 : a ≤ 50000) (hb : -50000 ≤ b) (hb2 : b ≤ 50000) (hc : -100000000 ≤ c) (hc2 : c ≤ 100000000) :
    ∃ A B C g : Int, ansH a b c = spotS A B C ∧ okH A B C = true ∧ 1 ≤ g ∧ a = A * g ∧ b = B * g ∧ c = C * g := by
  have hg := gS_posH (c := c) h0
  have ea : a = a.tdiv (gS a b c) * (gS a b c : Int) := (Int.tdiv_mul_cancel (gS_dvd_x a b c)).symm
  have eb : b = b.tdiv (gS a b c) * (gS a b c : Int) := (Int.tdiv_mul_cancel (gS_dvd_y a b c)).symm
  have ec : c = c.tdiv (gS a b c) * (gS a b c : Int) := (Int.tdiv_mul_cancel (gS_dvd_d a b c)).symm
  have one := red_lowH hg ea eb ec
  obtain ⟨a1, a2⟩ := div_in (by omega) ea ha ha2
  obtain ⟨b1, b2⟩ := div_in (by omega) eb hb hb2
  obtain ⟨c1, c2⟩ := div_in (by omega) ec hc hc2
  have nz : a.tdiv (gS a b c) ≠ 0 ∨ b.tdiv (gS a b c) ≠ 0 := by
    rcases h0 with h | h
    · left; intro q; rw [q] at ea; simp at ea; exact h ea
    · right; intro q; rw [q] at eb; simp at eb; exact h eb
  have ok : okH (a.tdiv (gS a b c)) (b.tdiv (gS a b c)) (c.tdiv (gS a b c)) = true := (okH_iff _ _ _).2 ⟨a1, a2, b1, b2, nz, c1, c2, one⟩
  exact ⟨_, _, _, (gS a b c : Int), ansH_yes (by rw [hasH_of h0]; exact ok), ok, by omega, ea, eb, ec⟩
/-- a small valid half plane -/
def SmallH (a b c : Int) : Prop := okH a b c = true ∧ -6 ≤ a ∧ a ≤ 6 ∧ -6 ≤ b ∧ b ≤ 6 ∧ -300 ≤ c ∧ c ≤ 300
theorem small_half (a b c : Int) (h0 : a ≠ 0 ∨ b ≠ 0) (ha : -6 ≤ a) (ha2 : a ≤ 6) (hb : -6 ≤ b) (hb2 : b ≤ 6) (hc : -300 ≤ c) (hc2 : c ≤ 300) : ∃ A B C : Int, ansH a b c = spotS A B C ∧ SmallH A B C := by
  obtain ⟨A, B, C, g, hA, hok, hg, ea, eb, ec⟩ := has_half (c := c) h0 (by omega) (by omega) (by omega) (by omega) (by omega) (by omega)
  obtain ⟨a1, a2⟩ := div_in hg ea ha ha2
  obtain ⟨b1, b2⟩ := div_in hg eb hb hb2
  obtain ⟨c1, c2⟩ := div_in hg ec hc hc2
  exact ⟨A, B, C, hA, hok, a1, a2, b1, b2, c1, c2⟩
/-- a drawn half plane -/
def GaveH (g : Nat) (a : Option Addr) (len cap : Nat) (w : World) (e : Ending) (w' : World) : Prop := ∃ X Y D : Int, SmallH X Y D ∧ e = .returned (.agg #[.int .i64 X, .int .i64 Y, .int .i64 D]) ∧ Drawn g a len cap w w'

/-- a small valid half plane, out of new memory alone -/
def MadeH (w : World) (e : Ending) (w' : World) : Prop := ∃ X Y D : Int, SmallH X Y D ∧ e = .returned (.agg #[.int .i64 X, .int .i64 Y, .int .i64 D]) ∧ Below w.heap.size w w'

/-- a small whole spot, out of new memory alone -/
def MadeW (w : World) (e : Ending) (w' : World) : Prop := ∃ X Y : Int, (-40 ≤ X ∧ X ≤ 39 ∧ -40 ≤ Y ∧ Y ≤ 39) ∧ e = .returned (.agg #[.int .i64 X, .int .i64 Y, .int .i64 1]) ∧ Below w.heap.size w w'

theorem bef_one (a b x y : Int) : (befV a b x y = true ∧ befV x y a b = false ∧ sdV a b x y = false) ∨ (befV a b x y = false ∧ befV x y a b = true ∧ sdV a b x y = false) ∨ (befV a b x y = false ∧ befV x y a b = false ∧ sdV a b x y = true) := by
  unfold befV sdV
  have e : x * b - y * a = -(a * y - b * x) := by rw [Int.mul_comm x b, Int.mul_comm y a]; omega
  rw [e]
  generalize a * y - b * x = T
  cases upB a b <;> cases upB x y
  · rcases Int.lt_trichotomy T 0 with h | h | h
    · right; left; simp; omega
    · right; right; simp; omega
    · left; simp; omega
  · right; left; simp
  · left; simp
  · rcases Int.lt_trichotomy T 0 with h | h | h
    · right; left; simp; omega
    · right; right; simp; omega
    · left; simp; omega
theorem sd_self (a b : Int) : sdV a b a b = true := by
  unfold sdV
  rw [Int.mul_comm b a]
  simp
theorem up_scale {A B g : Int} (hg : 1 ≤ g) : upB (A * g) (B * g) = upB A B := by
  have sgn : ∀ v : Int, (0 < v * g ↔ 0 < v) := by
    intro v
    constructor
    · intro h
      rcases Int.lt_or_le 0 v with k | k
      · exact k
      · have := Int.mul_nonpos_of_nonpos_of_nonneg k (by omega : 0 ≤ g); omega
    · intro h
      exact Int.mul_pos h (by omega)
  have zer : B * g = 0 ↔ B = 0 := by
    constructor
    · intro h
      rcases Int.mul_eq_zero.1 h with k | k
      · exact k
      · omega
    · intro h; subst h; simp
  unfold upB
  simp only [sgn, zer]
theorem sd_scale {A B g : Int} (hg : 1 ≤ g) : sdV (A * g) (B * g) A B = true ∧ sdV A B (A * g) (B * g) = true := by
  unfold sdV
  rw [up_scale hg]
  have e1 : A * g * B - B * g * A = 0 := by rw [Int.mul_right_comm A g B, Int.mul_right_comm B g A, Int.mul_comm B A]; omega
  have e2 : A * (B * g) - B * (A * g) = 0 := by rw [← Int.mul_assoc, ← Int.mul_assoc, Int.mul_comm B A]; omega
  simp [e1, e2]
theorem len_scale {A B g : Int} (hg : 1 ≤ g) : lenH (A * g) (B * g) = lenH A B * g := by
  unfold lenH
  rw [Int.natAbs_mul, Int.natAbs_mul, Int.add_mul]
  have : (g.natAbs : Int) = g := by omega
  push_cast
  rw [this]
theorem len_pos {A B : Int} (h : A ≠ 0 ∨ B ≠ 0) : 0 < lenH A B := by unfold lenH; omega

/-- the half plane with the border moved in by one -/
theorem moved_in {a b c : Int} (h : SmallH a b c) :
    ∃ A B C : Int, ansH a b (c - 1) = spotS A B C ∧ okH A B C = true ∧ tigH a b c A B C = .agg #[.int .i64 A, .int .i64 B, .int .i64 C] ∧ tigH A B C a b c = .agg #[.int .i64 A, .int .i64 B, .int .i64 C] := by
  obtain ⟨hok, a1, a2, b1, b2, c1, c2⟩ := h
  have h0 := ((okH_iff _ _ _).1 hok).2.2.2.2.1
  obtain ⟨A, B, C, g, hA, hk, hg, ea, eb, ec⟩ := has_half (a := a) (b := b) (c := c - 1) h0 (by omega) (by omega) (by omega) (by omega) (by omega) (by omega)
  have hlen := len_pos ((okH_iff _ _ _).1 hk).2.2.2.2.1
  refine ⟨A, B, C, hA, hk, ?_, ?_⟩
  · have s : sdH a b c A B C = true := by
      unfold sdH
      rw [hok, hk, ea, eb, (sd_scale hg).1]; rfl
    have lt : C * lenH a b < c * lenH A B := by
      rw [ea, eb, len_scale hg, ← Int.mul_assoc, Int.mul_right_comm C, ← ec, Int.sub_mul]
      omega
    rw [show tigH a b c A B C = _ from if_pos s, if_pos lt]
  · have s : sdH A B C a b c = true := by
      unfold sdH
      rw [hok, hk, ea, eb, (sd_scale hg).2]; rfl
    have ge : ¬ c * lenH A B < C * lenH a b := by
      rw [ea, eb, len_scale hg, ← Int.mul_assoc, Int.mul_right_comm C, ← ec, Int.sub_mul]
      omega
    rw [show tigH A B C a b c = _ from if_pos s, if_neg ge]
theorem tig_cases {a b c x y d : Int} (h : okH a b c = true) (k : okH x y d = true) :
    (sdV a b x y = true → ∃ X Y D : Int, tigH a b c x y d = .agg #[.int .i64 X, .int .i64 Y, .int .i64 D] ∧ (X ≠ 0 ∨ Y ≠ 0)) ∧ (sdV a b x y = false → tigH a b c x y d = .agg #[.int .i64 0, .int .i64 0, .int .i64 0]) := by
  have h0 := ((okH_iff _ _ _).1 h).2.2.2.2.1
  have k0 := ((okH_iff _ _ _).1 k).2.2.2.2.1
  constructor
  · intro s
    have s' : sdH a b c x y d = true := by unfold sdH; rw [h, k, s]; rfl
    rw [show tigH a b c x y d = _ from if_pos s']
    split
    · exact ⟨x, y, d, rfl, k0⟩
    · exact ⟨a, b, c, rfl, h0⟩
  · intro s
    exact if_neg (by unfold sdH; rw [s]; simp)
theorem half_in {a b c : Int} (h : okH a b c = true) : (-9223372036854775808 ≤ a ∧ a ≤ 9223372036854775807) ∧ (-9223372036854775808 ≤ b ∧ b ≤ 9223372036854775807) ∧ (-9223372036854775808 ≤ c ∧ c ≤ 9223372036854775807) := by
  obtain ⟨a1, a2, b1, b2, _, c1, c2, _⟩ := (okH_iff _ _ _).1 h
  omega
theorem bef_call {a b c x y d : Int} {r : Bool} (h : okH a b c = true) (k : okH x y d = true) (e : befV a b x y = r) (W : World) :
    Calls Try.prog 121 #[.agg #[.int .i64 a, .int .i64 b, .int .i64 c], .agg #[.int .i64 x, .int .i64 y, .int .i64 d]] W fun e w' => e = .returned (.bool r) ∧ Below W.heap.size W w' := by
  obtain ⟨⟨a1, a2⟩, ⟨b1, b2⟩, c1, c2⟩ := half_in h
  obtain ⟨⟨x1, x2⟩, ⟨y1, y2⟩, d1, d2⟩ := half_in k
  have := impl_bef a b c x y d W a1 a2 b1 b2 c1 c2 x1 x2 y1 y2 d1 d2
  rw [show befH a b c x y d = r by unfold befH; rw [h, k, e]; rfl] at this
  exact this
theorem hok_call {a b c : Int} (h : okH a b c = true) (W : World) :
    Calls Try.prog 55 #[.agg #[.int .i64 a, .int .i64 b, .int .i64 c]] W fun e w' => e = .returned (.bool true) ∧ Below W.heap.size W w' := by
  obtain ⟨⟨a1, a2⟩, ⟨b1, b2⟩, c1, c2⟩ := half_in h
  have := impl_hok a b c W a1 a2 b1 b2 c1 c2
  rw [h] at this
  exact this
theorem ninec {V X : World} {g h k : Nat} {a b c x y d p q r : Value} (hb : Below V.heap.size V X) (H1 : V.cell? ⟨g, 0, none⟩ = some a ∧ V.cell? ⟨g, 1, none⟩ = some b ∧ V.cell? ⟨g, 2, none⟩ = some c) (H2 : V.cell? ⟨h, 0, none⟩ = some x ∧ V.cell? ⟨h, 1, none⟩ = some y ∧ V.cell? ⟨h, 2, none⟩ = some d) (H3 : V.cell? ⟨k, 0, none⟩ = some p ∧ V.cell? ⟨k, 1, none⟩ = some q ∧ V.cell? ⟨k, 2, none⟩ = some r) :
    X.cell? ⟨g, 0, none⟩ = some a ∧ X.cell? ⟨g, 1, none⟩ = some b ∧ X.cell? ⟨g, 2, none⟩ = some c ∧ X.cell? ⟨h, 0, none⟩ = some x ∧ X.cell? ⟨h, 1, none⟩ = some y ∧ X.cell? ⟨h, 2, none⟩ = some d ∧ X.cell? ⟨k, 0, none⟩ = some p ∧ X.cell? ⟨k, 1, none⟩ = some q ∧ X.cell? ⟨k, 2, none⟩ = some r :=
  ⟨(three hb H1).1, (three hb H1).2.1, (three hb H1).2.2, (three hb H2).1, (three hb H2).2.1, (three hb H2).2.2, three hb H3⟩
theorem cells_of {W : World} {g : Nat} {a b c : Value} (h : Has3 W g a b c) : W.cell? ⟨g, 0, none⟩ = some a ∧ W.cell? ⟨g, 1, none⟩ = some b ∧ W.cell? ⟨g, 2, none⟩ = some c := ⟨h.1, h.2.1, h.2.2.1⟩

theorem ok_neg {a b c : Int} (h : okH a b c = true) : okH (-a) (-b) (-c) = true := by
  obtain ⟨a1, a2, b1, b2, h0, c1, c2, h1⟩ := (okH_iff _ _ _).1 h
  refine (okH_iff _ _ _).2 ⟨by omega, by omega, by omega, by omega, by omega, by omega, by omega, ?_⟩
  unfold gS at *
  rw [Int.neg_gcd, Int.gcd_neg, Int.gcd_neg]
  exact h1
theorem side_neg (a b c x y d : Int) : sideV (-a) (-b) (-c) x y d = -sideV a b c x y d := by
  unfold sideV
  rw [Int.neg_mul, Int.neg_mul, Int.neg_mul]
  generalize a * x = P
  generalize b * y = Q
  generalize c * d = R
  by_cases h1 : P + Q < R
  · rw [if_pos h1, if_neg (by omega), if_pos (by omega)]; rfl
  · by_cases h2 : R < P + Q
    · rw [if_neg h1, if_pos h2, if_pos (by omega)]
    · rw [if_neg h1, if_neg h2, if_neg (by omega), if_neg (by omega)]; rfl
theorem oth_oth {a b c : Int} (h : okH a b c = true) : othH a b c = .agg #[.int .i64 (-a), .int .i64 (-b), .int .i64 (-c)] ∧ othH (-a) (-b) (-c) = .agg #[.int .i64 a, .int .i64 b, .int .i64 c] := by
  refine ⟨othH_yes h, ?_⟩
  rw [othH_yes (ok_neg h), Int.neg_neg, Int.neg_neg, Int.neg_neg]
theorem scale_z {g v : Int} (hg : 1 ≤ g) (h : v * g = 0) : v = 0 := by
  rcases Int.mul_eq_zero.1 h with k | k
  · exact k
  · omega
theorem red_on {a b c X Y D X1 Y1 D1 g : Int} (hg : 1 ≤ g) (eX : X = X1 * g) (eY : Y = Y1 * g) (eD : D = D1 * g) (h : a * X + b * Y = c * D) : a * X1 + b * Y1 = c * D1 := by
  have : (a * X1 + b * Y1 - c * D1) * g = 0 := by
    rw [Int.sub_mul, Int.add_mul, Int.mul_assoc, Int.mul_assoc, Int.mul_assoc, ← eX, ← eY, ← eD, h]; omega
  have := scale_z hg this
  omega
/-- a spot on two borders, in lowest terms, is still on both -/
theorem cross_on {a b c x y d X Y D : Int} (hD : 1 ≤ D) (h : a * X + b * Y = c * D) (k : x * X + y * Y = d * D) :
    ∃ X1 Y1 D1 : Int, ∃ B : Bool, ansS X Y D = .tuple #[.agg #[.int .i64 X1, .int .i64 Y1, .int .i64 D1], .bool B] ∧ (B = true → okS X1 Y1 D1 = true ∧ a * X1 + b * Y1 = c * D1 ∧ x * X1 + y * Y1 = d * D1) := by
  cases hs : hasS X Y D with
  | false => exact ⟨0, 0, 0, false, ansS_no hs, fun h => by cases h⟩
  | true =>
    refine ⟨_, _, _, true, ansS_yes hs, fun _ => ⟨(hasS_pos hs).2, ?_, ?_⟩⟩
    all_goals
      have hg := gS_pos X Y D hD
      have eX : X = X.tdiv (gS X Y D) * (gS X Y D : Int) := (Int.tdiv_mul_cancel (gS_dvd_x X Y D)).symm
      have eY : Y = Y.tdiv (gS X Y D) * (gS X Y D : Int) := (Int.tdiv_mul_cancel (gS_dvd_y X Y D)).symm
      have eD : D = D.tdiv (gS X Y D) * (gS X Y D : Int) := (Int.tdiv_mul_cancel (gS_dvd_d X Y D)).symm
      first
        | exact red_on (by omega) eX eY eD h
        | exact red_on (by omega) eX eY eD k
theorem crs_on (a b c x y d : Int) : a * (c * y - b * d) + b * (a * d - c * x) = c * (a * y - b * x) ∧ x * (c * y - b * d) + y * (a * d - c * x) = d * (a * y - b * x) := by
  constructor
  · have e1 : a * (c * y) = c * (a * y) := Int.mul_left_comm a c y
    have e2 : b * (c * x) = c * (b * x) := Int.mul_left_comm b c x
    have e3 : a * (b * d) = b * (a * d) := Int.mul_left_comm a b d
    rw [Int.mul_sub, Int.mul_sub, Int.mul_sub, e1, e2, e3]; omega
  · have e1 : x * (b * d) = d * (b * x) := by rw [Int.mul_left_comm x b d, Int.mul_left_comm d b x, Int.mul_comm x d]
    have e2 : y * (a * d) = d * (a * y) := by rw [Int.mul_left_comm y a d, Int.mul_left_comm d a y, Int.mul_comm y d]
    have e3 : x * (c * y) = y * (c * x) := by rw [Int.mul_left_comm x c y, Int.mul_left_comm y c x, Int.mul_comm x y]
    rw [Int.mul_sub, Int.mul_sub, Int.mul_sub, e1, e2, e3]; omega
/-- the crossing of two borders does not depend on their order, and lies on both -/
theorem crs_facts {a b c x y d : Int} (h : okH a b c = true) (k : okH x y d = true) :
    ∃ X Y D : Int, ∃ B : Bool, crsH a b c x y d = .tuple #[.agg #[.int .i64 X, .int .i64 Y, .int .i64 D], .bool B] ∧ crsH x y d a b c = .tuple #[.agg #[.int .i64 X, .int .i64 Y, .int .i64 D], .bool B] ∧
      (B = true → okS X Y D = true ∧ sideV a b c X Y D = 0 ∧ sideV x y d X Y D = 0 ∧ ¬ a * y = b * x) := by
  rw [show crsH a b c x y d = _ from if_pos ⟨h, k⟩, show crsH x y d a b c = _ from if_pos ⟨k, h⟩]
  obtain ⟨o1, o2⟩ := crs_on a b c x y d
  have s1 : x * b - y * a = -(a * y - b * x) := by rw [Int.mul_comm x b, Int.mul_comm y a]; omega
  have s2 : d * b - y * c = -(c * y - b * d) := by rw [Int.mul_comm d b, Int.mul_comm y c]; omega
  have s3 : x * c - d * a = -(a * d - c * x) := by rw [Int.mul_comm x c, Int.mul_comm d a]; omega
  unfold crsV
  rw [s1, s2, s3]
  have nz : ¬ a * y - b * x = 0 → ¬ a * y = b * x := fun q r => q (by omega)
  generalize a * y - b * x = D at *
  generalize c * y - b * d = X at *
  generalize a * d - c * x = Y at *
  rcases Int.lt_trichotomy D 0 with q | q | q
  · rw [if_pos q, if_neg (by omega)]
    obtain ⟨X1, Y1, D1, B, e, f⟩ := cross_on (a := a) (b := b) (c := c) (x := x) (y := y) (d := d) (X := -X) (Y := -Y) (D := -D) (by omega) (by rw [Int.mul_neg, Int.mul_neg, Int.mul_neg]; omega) (by rw [Int.mul_neg, Int.mul_neg, Int.mul_neg]; omega)
    exact ⟨X1, Y1, D1, B, e, e, fun t => ⟨(f t).1, sideV_eq (f t).2.1, sideV_eq (f t).2.2, nz (by omega)⟩⟩
  · subst q
    rw [if_neg (by omega), if_neg (by omega), ansS_no (hasS_no (by omega)), ansS_no (hasS_no (by omega))]
    exact ⟨0, 0, 0, false, rfl, rfl, fun t => by cases t⟩
  · rw [if_neg (by omega), if_pos (by omega), Int.neg_neg, Int.neg_neg, Int.neg_neg]
    obtain ⟨X1, Y1, D1, B, e, f⟩ := cross_on (a := a) (b := b) (c := c) (x := x) (y := y) (d := d) (X := X) (Y := Y) (D := D) (by omega) o1 o2
    exact ⟨X1, Y1, D1, B, e, e, fun t => ⟨(f t).1, sideV_eq (f t).2.1, sideV_eq (f t).2.2, nz (by omega)⟩⟩
theorem spot_in {x y d : Int} (h : okS x y d = true) : (-9223372036854775808 ≤ x ∧ x ≤ 9223372036854775807) ∧ (-9223372036854775808 ≤ y ∧ y ≤ 9223372036854775807) ∧ (-9223372036854775808 ≤ d ∧ d ≤ 9223372036854775807) := by
  obtain ⟨d1, d2, x1, x2, y1, y2, _⟩ := (okS_iff _ _ _).1 h
  omega
end Go.Proofs.Ytibkmhmeoelpdaa
