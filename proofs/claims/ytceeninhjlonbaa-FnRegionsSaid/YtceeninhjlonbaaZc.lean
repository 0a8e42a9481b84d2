/- The walk of the law FnRegions. -/
import Derived.Test.YtceeninhjlonbaaZb
import Derived.Test.YtceeninhjlonbaaVs
namespace Go.Proofs.Ytceeninhjlonbaa
open Go.RowKit
open Geo (H3)

theorem okS64' {x y d : Int} (h : okS x y d = true) : In64 ⟨x, y, d⟩ := by
  by_cases c : d < 1 ∨ 5000000000 < d ∨ x < -(1000 * d) ∨ 1000 * d < x ∨ y < -(1000 * d) ∨ 1000 * d < y
  · rw [okS_no c] at h; cases h
  · refine ⟨⟨?_, ?_⟩, ⟨?_, ?_⟩, ⟨?_, ?_⟩⟩ <;> simp only <;> omega
theorem side_eq {h : H3} {x y : Int} (k : okB h = true) (o : okS x y 1 = true) : sideH h.a h.b h.c x y 1 = sideV h.a h.b h.c x y 1 := by
  unfold sideH
  rw [show okH h.a h.b h.c = true from k, o]
  rfl
def alB (hs : List H3) (x y : Int) (k : Nat) : Bool := (hs.take k).all fun g => decide (Geo.val g x y 1 ≤ 0)
def stB (hs : List H3) (x y : Int) (k : Nat) : Bool := (hs.take k).all fun g => decide (Geo.val g x y 1 < 0)
theorem alB_next {hs : List H3} {x y : Int} {k : Nat} {g : H3} (h : hs[k]? = some g) : alB hs x y (k + 1) = (alB hs x y k && decide (Geo.val g x y 1 ≤ 0)) := by
  unfold alB
  rw [List.take_add_one, h, List.all_append]
  simp
theorem stB_next {hs : List H3} {x y : Int} {k : Nat} {g : H3} (h : hs[k]? = some g) : stB hs x y (k + 1) = (stB hs x y k && decide (Geo.val g x y 1 < 0)) := by
  unfold stB
  rw [List.take_add_one, h, List.all_append]
  simp
theorem alB_all {hs : List H3} {x y : Int} {k : Nat} (e : hs.length = k) : alB hs x y k = true ↔ ∀ g ∈ hs, Geo.val g x y 1 ≤ 0 := by
  unfold alB
  rw [List.take_of_length_le (by omega), List.all_eq_true]
  simp
theorem stB_all {hs : List H3} {x y : Int} {k : Nat} (e : hs.length = k) : stB hs x y k = true ↔ ∀ g ∈ hs, Geo.val g x y 1 < 0 := by
  unfold stB
  rw [List.take_of_length_le (by omega), List.all_eq_true]
  simp
theorem hold_q {h : H3} {x y : Int} (k : okB h = true) (o : okS x y 1 = true) (w : World) :
    Calls Try.prog 35 #[.agg #[.int .i64 h.a, .int .i64 h.b, .int .i64 h.c], .agg #[.int .i64 x, .int .i64 y, .int .i64 1]] w fun e w' => e = .returned (.bool (decide (Geo.val h x y 1 ≤ 0))) ∧ Below w.heap.size w w' := by
  rw [← hold_val k o]
  have a := ok_in64 k
  have b := okS64' o
  exact impl_hold h.a h.b h.c x y 1 w a.1.1 a.1.2 a.2.1.1 a.2.1.2 a.2.2.1 a.2.2.2 b.1.1 b.1.2 b.2.1.1 b.2.1.2 b.2.2.1 b.2.2.2
theorem side_q {h : H3} {x y : Int} (k : okB h = true) (o : okS x y 1 = true) (w : World) :
    Calls Try.prog 36 #[.agg #[.int .i64 h.a, .int .i64 h.b, .int .i64 h.c], .agg #[.int .i64 x, .int .i64 y, .int .i64 1]] w fun e w' => e = .returned (.int .i64 (sideV h.a h.b h.c x y 1)) ∧ Below w.heap.size w w' := by
  rw [← side_eq k o]
  have a := ok_in64 k
  have b := okS64' o
  exact impl_side h.a h.b h.c x y 1 w a.1.1 a.1.2 a.2.1.1 a.2.1.2 a.2.2.1 a.2.2.2 b.1.1 b.1.2 b.2.1.1 b.2.1.2 b.2.2.1 b.2.2.2
set_option maxRecDepth 100000 in
set_option maxHeartbeats 6400000 in
theorem law_regions (a : Option Addr) (len cap : Nat) (w : World) (_hm : len ≤ maxLen) (hB : BytesAt w a len) :
    Calls Try.prog 7 #[.slice a len cap] w fun e w' => e = .returned (.bool true) ∧ Below w.heap.size w w' := by
  by_cases hle : (1048576 : Int) < (len : Int)
  · go_enter Try.func7, Try.ntmps7
    go_wp2
    go_ret
    exact ⟨rfl, Below.refl _ _⟩
  have HB := Lib.hid hB
  have hl : len ≤ 1048576 := by omega
  clear hB
  go_enter Try.func7, Try.ntmps7
  go_wp2_with fail
  refine (make_halves w a len cap hl HB.out).mono ?_
  rintro e w1 ⟨hs, al, cl, rfl, h5, hok, ho1, b1⟩
  have H1 := Lib.hid (own_hs ho1)
  have HOK := Lib.hid hok
  have H64 := Lib.hid (fun h hh => ok_in64 (List.all_eq_true.1 hok h hh))
  have hL : (regL hs).length ≤ 40 := by have := regL_len hs; omega
  have hF : okF hs = true := by unfold okF; rw [hok, decide_eq_true (by omega : hs.length ≤ 40), decide_eq_true hL]; rfl
  have hE : regE hs = regL hs := by unfold regE; rw [if_pos hF]
  have HROK := Lib.hid (rok_regL hok hL)
  have HF1 := Lib.hid (fun x y (o : okS x y 1 = true) k => has_all (x := x) (y := y) hok o k)
  have HF2 := Lib.hid (fun n x y hx hy k => all_has (x := x) (y := y) hok hL n hx hy k)
  have HF3 := Lib.hid (fun x y hx hy k => strict_some (x := x) (y := y) hok hx hy k)
  have HID := Lib.hid (fun n => regL_idem hok n)
  have HPO := Lib.hid (regL_ok hok)
  have HPL := Lib.hid hL
  obtain ⟨m, hm⟩ : ∃ m, hs.length = m := ⟨_, rfl⟩
  rw [hm] at h5 ⊢
  have HM := Lib.hid hm
  clear hm ho1 hok
  go_wp2_with fail
  refine (impl_from al m cl hs w1 HM.out (by omega) H64.out H1.out).mono ?_
  rintro e w2 ⟨ap, cp, rfl, ho2, bl2⟩
  rw [hE] at ho2 ⊢
  rw [hF]
  clear hE hF hL
  generalize regL hs = ps at *
  have H2 := Lib.hid (own_hs ho2)
  obtain ⟨p, hp⟩ : ∃ p, ps.length = p := ⟨_, rfl⟩
  have HP := Lib.hid hp
  rw [hp]
  clear ho2
  have b2 := below_to b1 bl2
  have bY := below_one w2 (.cells #[.slice ap p cp] 37)
  have B0 := blk_new w2 #[.slice ap p cp] 37 rfl
  have H1b := Lib.hid ((H1.out.below bl2).below bY)
  have H2b := Lib.hid (H2.out.below bY)
  have b3 := below_to b2 bY
  have HR := Lib.hid (fun V (h : HsAt V ap ps) => impl_rok ap p cp ps V HP.out (by have := HPL.out; have := HP.out; omega) (fun h hh => ok_in64 (HPO.out h hh)) h)
  rw [HROK.out] at HR
  have c0 := B0.cell0 (i := 0) rfl
  clear bl2 bY b2 b1 H1 H2 hp
  go_wp2_with fail
  clear c0
  generalize w2.alloc (.cells #[.slice ap p cp] 37) = U at *
  obtain ⟨bp, hbp⟩ : ∃ b, w2.heap.size = b := ⟨_, rfl⟩
  rw [hbp] at B0 ⊢
  clear hbp
  refine (HR.out U H2b.out).mono ?_
  rintro e w4 ⟨rfl, bl4⟩
  have b4 := below_to b3 bl4
  have B4 := B0.to bl4
  have H14 := Lib.hid (H1b.out.below bl4)
  have H24 := Lib.hid (H2b.out.below bl4)
  clear bl4 b3 B0 H1b H2b HR
  go_wp2
  go_loopw [6] (fun i wr => ∃ k : Nat, k ≤ 12 ∧ i = .int .i64 k ∧ Below w.heap.size w wr ∧ Below w4.heap.size w4 wr) (fun i _ => 12 - (intOf i).toNat)
  case atStart => exact ⟨0, by omega, rfl, b4, Below.refl _ _⟩
  case round =>
    obtain ⟨k, hk, rfl, hbw, hb4⟩ := hrel
    have HBW := Lib.hid hbw
    have HB4 := Lib.hid hb4
    clear hbw hb4
    by_cases hk12 : k < 12
    · have hkk : (k : Int) < 12 := by omega
      have v1 : IntKind.i64.wrap (4 * (k : Int)) = 4 * (k : Int) := IntWalk.i64_in _ (by omega)
      have v2 : IntKind.i64.wrap (60 + 4 * (k : Int)) = ((60 + 4 * k : Nat) : Int) := by rw [IntWalk.i64_in _ (by omega)]; omega
      go_wp2_with fail
      refine (make_whole wr a len cap (60 + 4 * k) (by omega) hl (HB.out.below HBW.out)).mono ?_
      rintro e w5 ⟨X, Y, hXY, rfl, bl5⟩
      have bZ := below_one w5 (.cells #[.int .i64 X, .int .i64 Y, .int .i64 1] 41)
      have S5 := blk_new w5 #[.int .i64 X, .int .i64 Y, .int .i64 1] 41 rfl
      have b5 := below_to (below_to HBW.out bl5) bZ
      have b54 := below_to (below_to HB4.out bl5) bZ
      have HSO := Lib.hid (whole_ok (x := X) (y := Y) (by omega) (by omega))
      have HX := Lib.hid hXY
      clear bl5 bZ HBW HB4 v1 v2 hXY
      go_wp2
      generalize w5.alloc (.cells #[.int .i64 X, .int .i64 Y, .int .i64 1] 41) = T at *
      generalize w5.heap.size = sp at *
      go_loopw [8, 9, 42] (fun x y z wq => ∃ j : Nat, j ≤ m ∧ z = .int .i64 j ∧ x = .bool (alB hs X Y j) ∧ y = .bool (stB hs X Y j) ∧ Below w.heap.size w wq ∧ Below w4.heap.size w4 wq ∧ Below T.heap.size T wq) (fun _ _ z _ => m - (intOf z).toNat)
      case atStart => exact ⟨0, by omega, rfl, rfl, rfl, b5, b54, Below.refl _ _⟩
      case round =>
        obtain ⟨j, hj, rfl, rfl, rfl, q1, q2, q3⟩ := hrel
        have Q1 := Lib.hid q1
        have Q2 := Lib.hid q2
        have Q3 := Lib.hid q3
        clear q1 q2 q3
        by_cases hjm : j < m
        · obtain ⟨h, hx⟩ : ∃ h, hs[j]? = some h := ⟨_, List.getElem?_eq_getElem (by rw [HM.out]; exact hjm)⟩
          have HXX := Lib.hid hx
          have HKO := Lib.hid (List.all_eq_true.1 HOK.out h (List.mem_of_getElem? hx))
          obtain ⟨g, o, rfl, hcx⟩ := H14.out j _ hx
          obtain ⟨t1, t2, t3⟩ := hcx.to Q2.out
          have bN := below_one wr (.cells #[.int .i64 h.a, .int .i64 h.b, .int .i64 h.c] 67)
          have N5 := blk_new wr #[.int .i64 h.a, .int .i64 h.b, .int .i64 h.c] 67 rfl
          have S6 := (S5.to Q3.out).to bN
          have r1 := below_to Q1.out bN
          have r2 := below_to Q2.out bN
          have r3 := below_to Q3.out bN
          have HH := Lib.hid (hold_q (x := X) (y := Y) HKO.out HSO.out)
          have HG := Lib.hid (side_q (x := X) (y := Y) HKO.out HSO.out)
          clear hx hcx bN Q1 Q2 Q3
          have n0 := N5.cell0 (i := 0) rfl
          have n1 := N5.cell0 (i := 1) rfl
          have n2 := N5.cell0 (i := 2) rfl
          have s0 := S6.cell0 (i := 0) rfl
          have s1 := S6.cell0 (i := 1) rfl
          have s2 := S6.cell0 (i := 2) rfl
          cases ha : alB hs X Y j with
          | false =>
            cases hb : stB hs X Y j with
            | false =>
              have HAV := Lib.hid ha
              have HBV := Lib.hid hb
              clear ha hb
              go_wp2
              go_roundw
              case rel => exact ⟨j + 1, by omega, by go_num, by rw [alB_next HXX.out, HAV.out]; rfl, by rw [stB_next HXX.out, HBV.out]; rfl, r1, r2, r3⟩
              case measure => simp [intOf]; omega
            | true =>
              have HAV := Lib.hid ha
              have HBV := Lib.hid hb
              clear ha hb
              go_wp2_with fail
              clear t1 t2 t3
              clear n0 n1 n2 s0 s1 s2
              refine (HG.out _).mono ?_
              rintro e w8 ⟨rfl, bl8⟩
              have r1 := below_to r1 bl8
              have r2 := below_to r2 bl8
              have r3 := below_to r3 bl8
              clear bl8
              have HSV := Lib.hid (side_lt (a := h.a) (b := h.b) (c := h.c) (x := X) (y := Y))
              generalize sideV h.a h.b h.c X Y 1 = sv at *
              by_cases hsv : sv = -1
              · subst hsv
                have HT := Lib.hid (show decide (Geo.val h X Y 1 < 0) = true from decide_eq_true (HSV.out.1 rfl))
                go_wp2
                go_roundw
                case rel => exact ⟨j + 1, by omega, by go_num, by rw [alB_next HXX.out, HAV.out]; rfl, by rw [stB_next HXX.out, HBV.out, HT.out]; rfl, r1, r2, r3⟩
                case measure => simp [intOf]; omega
              · have HNS := Lib.hid hsv
                have HT := Lib.hid (show decide (Geo.val h X Y 1 < 0) = false from decide_eq_false (fun k => HNS.out (HSV.out.2 k)))
                have hsb : (sv == -1) = false := by simpa using HNS.out
                go_wp2
                go_roundw
                case rel => exact ⟨j + 1, by omega, by go_num, by rw [alB_next HXX.out, HAV.out]; rfl, by rw [stB_next HXX.out, HBV.out, HT.out]; rfl, r1, r2, r3⟩
                case measure => simp [intOf]; omega
          | true =>
            cases hb : stB hs X Y j with
            | false =>
              have HAV := Lib.hid ha
              have HBV := Lib.hid hb
              clear ha hb
              go_wp2_with fail
              clear t1 t2 t3
              clear n0 n1 n2 s0 s1 s2
              refine (HH.out _).mono ?_
              rintro e w7 ⟨rfl, bl7⟩
              have r1 := below_to r1 bl7
              have r2 := below_to r2 bl7
              have r3 := below_to r3 bl7
              have N6 := N5.to bl7
              have S7 := S6.to bl7
              clear bl7 N5 S6
              generalize hv : decide (Geo.val h X Y 1 ≤ 0) = vB at *
              have HV := Lib.hid hv
              clear hv
              go_wp2
              go_roundw
              case rel => exact ⟨j + 1, by omega, by go_num, by rw [alB_next HXX.out, HAV.out, Bool.true_and, HV.out], by rw [stB_next HXX.out, HBV.out]; rfl, r1, r2, r3⟩
              case measure => simp [intOf]; omega
            | true =>
              have HAV := Lib.hid ha
              have HBV := Lib.hid hb
              clear ha hb
              go_wp2_with fail
              clear t1 t2 t3
              clear n0 n1 n2 s0 s1 s2
              refine (HH.out _).mono ?_
              rintro e w7 ⟨rfl, bl7⟩
              have r1 := below_to r1 bl7
              have r2 := below_to r2 bl7
              have r3 := below_to r3 bl7
              have N6 := N5.to bl7
              have S7 := S6.to bl7
              clear bl7 N5 S6
              generalize hv : decide (Geo.val h X Y 1 ≤ 0) = vB at *
              have HV := Lib.hid hv
              clear hv
              have n0 := N6.cell0 (i := 0) rfl
              have n1 := N6.cell0 (i := 1) rfl
              have n2 := N6.cell0 (i := 2) rfl
              have s0 := S7.cell0 (i := 0) rfl
              have s1 := S7.cell0 (i := 1) rfl
              have s2 := S7.cell0 (i := 2) rfl
              go_wp2_with fail
              clear n0 n1 n2 s0 s1 s2
              refine (HG.out _).mono ?_
              rintro e w8 ⟨rfl, bl8⟩
              have r1 := below_to r1 bl8
              have r2 := below_to r2 bl8
              have r3 := below_to r3 bl8
              clear bl8
              have HSV := Lib.hid (side_lt (a := h.a) (b := h.b) (c := h.c) (x := X) (y := Y))
              generalize sideV h.a h.b h.c X Y 1 = sv at *
              by_cases hsv : sv = -1
              · subst hsv
                have HT := Lib.hid (show decide (Geo.val h X Y 1 < 0) = true from decide_eq_true (HSV.out.1 rfl))
                go_wp2
                go_roundw
                case rel => exact ⟨j + 1, by omega, by go_num, by rw [alB_next HXX.out, HAV.out, Bool.true_and, HV.out], by rw [stB_next HXX.out, HBV.out, HT.out]; rfl, r1, r2, r3⟩
                case measure => simp [intOf]; omega
              · have HNS := Lib.hid hsv
                have HT := Lib.hid (show decide (Geo.val h X Y 1 < 0) = false from decide_eq_false (fun k => HNS.out (HSV.out.2 k)))
                have hsb : (sv == -1) = false := by simpa using HNS.out
                go_wp2
                go_roundw
                case rel => exact ⟨j + 1, by omega, by go_num, by rw [alB_next HXX.out, HAV.out, Bool.true_and, HV.out], by rw [stB_next HXX.out, HBV.out, HT.out]; rfl, r1, r2, r3⟩
                case measure => simp [intOf]; omega
        · have hjm2 : j = m := by omega
          rw [hjm2]
          clear hjm hjm2 hj
          have HHS := Lib.hid (fun V (h : HsAt V ap ps) => impl_has ap p cp ps X Y 1 V HP.out (by have := HPL.out; have := HP.out; omega) (fun h hh => ok_in64 (HPO.out h hh)) (okS64' HSO.out) h)
          have HVD := Lib.hid (fun V => impl_void ap p cp V)
          have HAL := Lib.hid (alB_all (x := X) (y := Y) HM.out)
          have HST := Lib.hid (stB_all (x := X) (y := Y) HM.out)
          have r1 := Q1.out
          have r2 := Q2.out
          have r3 := Q3.out
          clear Q1 Q2 Q3
          have hX1 : -1000 ≤ X ∧ X ≤ 1000 := by have := HX.out; omega
          have hY1 : -1000 ≤ Y ∧ Y ≤ 1000 := by have := HX.out; omega
          have hX2 : -999 ≤ X ∧ X ≤ 999 := by have := HX.out; omega
          have hY2 : -999 ≤ Y ∧ Y ≤ 999 := by have := HX.out; omega
          have HG2 := Lib.hid (fun n k => HF2.out n X Y hX1 hY1 k)
          have HG3 := Lib.hid (fun k => HF3.out X Y hX2 hY2 k)
          clear hX1 hY1 hX2 hY2
          cases hH : hasB ps X Y 1 with
          | true =>
            have ha : alB hs X Y m = true := HAL.out.2 (HF1.out X Y HSO.out hH)
            have hne : ps ≠ [] := by intro e; rw [e] at hH; simp [hasB] at hH
            have hp0 : ((p : Int) == 0) = false := by have : 0 < ps.length := List.length_pos_iff.2 hne; rw [HP.out] at this; exact eq_b (by omega)
            rw [hH] at HHS
            rw [hp0] at HVD
            rw [ha]
            have HHH := Lib.hid hH
            clear hH ha hne hp0
            cases hb : stB hs X Y m with
            | true =>
              clear hb
              have b0 := (B4.to r2).cell0 (i := 0) (v := .slice ap p cp) rfl
              have s0 := (S5.to r3).cell0 (i := 0) rfl
              have s1 := (S5.to r3).cell0 (i := 1) rfl
              have s2 := (S5.to r3).cell0 (i := 2) rfl
              go_wp2_with fail
              clear b0 s0 s1 s2
              refine (HHS.out _ (H24.out.below r2)).mono ?_
              rintro e v1 ⟨rfl, bl⟩
              replace r1 := below_to r1 bl
              replace r2 := below_to r2 bl
              replace r3 := below_to r3 bl
              clear bl
              have b0 := (B4.to r2).cell0 (i := 0) (v := .slice ap p cp) rfl
              have s0 := (S5.to r3).cell0 (i := 0) rfl
              have s1 := (S5.to r3).cell0 (i := 1) rfl
              have s2 := (S5.to r3).cell0 (i := 2) rfl
              go_wp2_with fail
              clear b0 s0 s1 s2
              refine (HHS.out _ (H24.out.below r2)).mono ?_
              rintro e v2 ⟨rfl, bl⟩
              replace r1 := below_to r1 bl
              replace r2 := below_to r2 bl
              replace r3 := below_to r3 bl
              clear bl
              have b0 := (B4.to r2).cell0 (i := 0) (v := .slice ap p cp) rfl
              go_wp2_with fail
              clear b0
              refine (HVD.out _).mono ?_
              rintro e v3 ⟨rfl, bl⟩
              replace r1 := below_to r1 bl
              replace r2 := below_to r2 bl
              replace r3 := below_to r3 bl
              clear bl
              have b0 := (B4.to r2).cell0 (i := 0) (v := .slice ap p cp) rfl
              have s0 := (S5.to r3).cell0 (i := 0) rfl
              have s1 := (S5.to r3).cell0 (i := 1) rfl
              have s2 := (S5.to r3).cell0 (i := 2) rfl
              go_wp2_with fail
              clear b0 s0 s1 s2
              refine (HHS.out _ (H24.out.below r2)).mono ?_
              rintro e v4 ⟨rfl, bl⟩
              replace r1 := below_to r1 bl
              replace r2 := below_to r2 bl
              replace r3 := below_to r3 bl
              clear bl
              go_wp2
              go_roundw
              case rel => exact ⟨k + 1, by omega, by go_num, r1, r2⟩
              case measure => simp [intOf]; omega
            | false =>
              clear hb
              have b0 := (B4.to r2).cell0 (i := 0) (v := .slice ap p cp) rfl
              have s0 := (S5.to r3).cell0 (i := 0) rfl
              have s1 := (S5.to r3).cell0 (i := 1) rfl
              have s2 := (S5.to r3).cell0 (i := 2) rfl
              go_wp2_with fail
              clear b0 s0 s1 s2
              refine (HHS.out _ (H24.out.below r2)).mono ?_
              rintro e v1 ⟨rfl, bl⟩
              replace r1 := below_to r1 bl
              replace r2 := below_to r2 bl
              replace r3 := below_to r3 bl
              clear bl
              have b0 := (B4.to r2).cell0 (i := 0) (v := .slice ap p cp) rfl
              go_wp2_with fail
              clear b0
              refine (HVD.out _).mono ?_
              rintro e v3 ⟨rfl, bl⟩
              replace r1 := below_to r1 bl
              replace r2 := below_to r2 bl
              replace r3 := below_to r3 bl
              clear bl
              have b0 := (B4.to r2).cell0 (i := 0) (v := .slice ap p cp) rfl
              have s0 := (S5.to r3).cell0 (i := 0) rfl
              have s1 := (S5.to r3).cell0 (i := 1) rfl
              have s2 := (S5.to r3).cell0 (i := 2) rfl
              go_wp2_with fail
              clear b0 s0 s1 s2
              refine (HHS.out _ (H24.out.below r2)).mono ?_
              rintro e v4 ⟨rfl, bl⟩
              replace r1 := below_to r1 bl
              replace r2 := below_to r2 bl
              replace r3 := below_to r3 bl
              clear bl
              go_wp2
              go_roundw
              case rel => exact ⟨k + 1, by omega, by go_num, r1, r2⟩
              case measure => simp [intOf]; omega
          | false =>
            have HNN := Lib.hid (show stB hs X Y m = false from by
              cases hb : stB hs X Y m with
              | false => rfl
              | true =>
                have k := HST.out.1 hb
                have := HG2.out (HG3.out k) (fun g hg => Int.le_of_lt (k g hg))
                rw [hH] at this
                cases this)
            have HVV := Lib.hid (show alB hs X Y m = true → ps = [] from by
              intro k
              by_cases n : ps = []
              · exact n
              · have := HG2.out n (HAL.out.1 k)
                rw [hH] at this
                cases this)
            rw [hH] at HHS
            rw [HNN.out]
            clear hH
            cases ha : alB hs X Y m with
            | false =>
              clear ha
              have b0 := (B4.to r2).cell0 (i := 0) (v := .slice ap p cp) rfl
              have s0 := (S5.to r3).cell0 (i := 0) rfl
              have s1 := (S5.to r3).cell0 (i := 1) rfl
              have s2 := (S5.to r3).cell0 (i := 2) rfl
              go_wp2_with fail
              clear b0 s0 s1 s2
              refine (HHS.out _ (H24.out.below r2)).mono ?_
              rintro e v1 ⟨rfl, bl⟩
              replace r1 := below_to r1 bl
              replace r2 := below_to r2 bl
              replace r3 := below_to r3 bl
              clear bl
              go_wp2
              go_roundw
              case rel => exact ⟨k + 1, by omega, by go_num, r1, r2⟩
              case measure => simp [intOf]; omega
            | true =>
              have hp0 : ((p : Int) == 0) = true := by have := HP.out; rw [HVV.out ha] at this; simp at this; subst this; rfl
              rw [hp0] at HVD
              clear ha hp0
              have b0 := (B4.to r2).cell0 (i := 0) (v := .slice ap p cp) rfl
              have s0 := (S5.to r3).cell0 (i := 0) rfl
              have s1 := (S5.to r3).cell0 (i := 1) rfl
              have s2 := (S5.to r3).cell0 (i := 2) rfl
              go_wp2_with fail
              clear b0 s0 s1 s2
              refine (HHS.out _ (H24.out.below r2)).mono ?_
              rintro e v1 ⟨rfl, bl⟩
              replace r1 := below_to r1 bl
              replace r2 := below_to r2 bl
              replace r3 := below_to r3 bl
              clear bl
              have b0 := (B4.to r2).cell0 (i := 0) (v := .slice ap p cp) rfl
              go_wp2_with fail
              clear b0
              refine (HVD.out _).mono ?_
              rintro e v2 ⟨rfl, bl⟩
              replace r1 := below_to r1 bl
              replace r2 := below_to r2 bl
              replace r3 := below_to r3 bl
              clear bl
              go_wp2
              go_roundw
              case rel => exact ⟨k + 1, by omega, by go_num, r1, r2⟩
              case measure => simp [intOf]; omega
    · have h12 : k = 12 := by omega
      subst h12
      have HOF := Lib.hid (show okF ps = true ∧ (ps ≠ [] → regE ps = ps) from by
        by_cases n : ps = []
        · subst n
          exact ⟨by decide, fun h => absurd rfl h⟩
        · have e := HID.out n
          have o : okF ps = true := by unfold okF; rw [e, List.all_eq_true.2 HPO.out, decide_eq_true HPL.out]; rfl
          exact ⟨o, fun _ => by unfold regE; rw [if_pos o, e]⟩)
      have HFR := Lib.hid (fun V (h : HsAt V ap ps) => impl_from ap p cp ps V HP.out (by have := HPL.out; have := HP.out; omega) (fun h hh => ok_in64 (HPO.out h hh)) h)
      unfold FromW at HFR
      rw [HOF.out.1] at HFR
      have r1 := HBW.out
      have r2 := HB4.out
      clear HBW HB4 HF1 HF2 HF3 HID hk12
      have b0 := (B4.to r2).cell0 (i := 0) (v := .slice ap p cp) rfl
      go_wp2_with fail
      clear b0
      refine (HFR.out _ (H24.out.below r2)).mono ?_
      rintro e v1 ⟨aq, cq, rfl, hoq, bl⟩
      generalize regE ps = rs at *
      generalize hrl : rs.length = rl at *
      have HQ := Lib.hid (own_hs hoq)
      have HRL := Lib.hid hrl
      have bY := below_one v1 (.cells #[.slice aq rl cq] 37)
      have N5 := blk_new v1 #[.slice aq rl cq] 37 rfl
      have HQ2 := Lib.hid (HQ.out.below bY)
      have s1 := below_to (below_to r1 bl) bY
      have s2 := below_to (below_to r2 bl) bY
      clear hoq bl bY r1 r2 HQ HFR hrl
      have HVD := Lib.hid (fun V => impl_void ap p cp V)
      have b0 := (B4.to s2).cell0 (i := 0) (v := .slice ap p cp) rfl
      by_cases hp0 : p = 0
      · have hpv : ((p : Int) == 0) = true := by subst hp0; rfl
        rw [hpv] at HVD
        clear hp0 hpv
        go_wp2_with fail
        refine (HVD.out _).mono ?_
        rintro e v2 ⟨rfl, bl⟩
        have s3 := below_to s1 bl
        clear b0 N5 bl s2
        go_wp2
        go_ret
        exact ⟨rfl, s3⟩
      · have hpv : ((p : Int) == 0) = false := eq_b (by omega)
        rw [hpv] at HVD
        have hne : ps ≠ [] := by intro e; have := HP.out; rw [e] at this; simp at this; omega
        have HEQ := Lib.hid (HOF.out.2 hne)
        clear hpv hne
        go_wp2_with fail
        refine (HVD.out _).mono ?_
        rintro e v2 ⟨rfl, bl⟩
        have s3 := below_to s1 bl
        have s4 := below_to s2 bl
        have N6 := N5.to bl
        have HQ3 := Lib.hid (HQ2.out.below bl)
        clear b0 N5 bl s1 s2 HQ2
        have b0 := (B4.to s4).cell0 (i := 0) (v := .slice ap p cp) rfl
        have n0 := N6.cell0 (i := 0) rfl
        have HSM := Lib.hid (impl_rsame ap aq p rl cp cq ps rs v2 HP.out HRL.out (by have := HPL.out; have := HP.out; omega) (H24.out.below s4) HQ3.out)
        have hsb : sameB ps rs = true := by unfold sameB; rw [HEQ.out]; simp
        rw [hsb] at HSM
        clear hsb
        go_wp2_with fail
        clear b0 n0
        refine HSM.out.mono ?_
        rintro e v3 ⟨rfl, bl⟩
        have s5 := below_to s3 bl
        clear N6 bl s3 s4
        go_wp2
        go_ret
        exact ⟨rfl, s5⟩
end Go.Proofs.Ytceeninhjlonbaa
