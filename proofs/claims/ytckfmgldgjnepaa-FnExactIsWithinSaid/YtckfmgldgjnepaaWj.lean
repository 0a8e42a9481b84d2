/- The model's IsWithin over the translation, and the walk of its law. -/
import Derived.Test.YtckfmgldgjnepaaWi
import Derived.Test.YtckfmgldgjnepaaCu
namespace Go.Proofs.Ytckfmgldgjnepaa
open Go.RowKit
open Geo (H3)

noncomputable def lwB (ps qs : List H3) : Bool := decide (ps = []) || (corL ps ps.length).all (fun c => lhaB qs c.a c.b c.c)
theorem lw_wi {ps qs : List H3} (h : rokB ps = true) (k : rokB qs = true) : lwB ps qs = wiB ps qs := by
  unfold lwB wiB corR
  rw [h, k]
  simp only [Bool.true_and, if_true]
  by_cases p : ps = []
  · simp [p]
  · simp only [p, decide_false, Bool.false_or]
    by_cases q : qs = []
    · subst q
      have : 0 < ps.length := List.length_pos_iff.2 p
      have e : (corL ps ps.length).all (fun c => lhaB [] c.a c.b c.c) = false := by
        rw [List.all_eq_false]
        exact ⟨_, List.mem_of_getElem? (corL_get ps this), by simp [lhaB]⟩
      rw [e]; simp
    · simp only [ne_eq, q, not_false_eq_true, decide_true, Bool.true_and]
      congr 1
      funext c
      unfold lhaB ahB
      simp [q]
theorem lw_no {ps qs : List H3} {k : Nat} {c : H3} (n : ps ≠ []) (h : (corL ps ps.length)[k]? = some c) (e : lhaB qs c.a c.b c.c = false) : lwB ps qs = false := by
  have : (corL ps ps.length).all (fun c => lhaB qs c.a c.b c.c) = false := by
    rw [List.all_eq_false]; exact ⟨c, List.mem_of_getElem? h, by simp [e]⟩
  unfold lwB; simp [n, this]
set_option maxRecDepth 100000 in
set_option maxHeartbeats 1600000 in
theorem spec_lwi (a b : Option Addr) (n m ca cb : Nat) (ps qs : List H3) (w : World) (hl : ps.length = n) (hk : qs.length = m) (hn : n ≤ 1048576) (hm : m ≤ 1048576) (hp : rokB ps = true) (hq : rokB qs = true) (hA : HsAt w a ps) (hB : HsAt w b qs) :
    Calls Try.prog 43 #[.agg #[.slice a n ca], .agg #[.slice b m cb]] w fun e w' => e = .returned (.bool (lwB ps qs)) ∧ Below w.heap.size w w' := by
  have bV := below_bx2 (below_one w (.cells #[.slice a n ca] 30)) (.cells #[.slice b m cb] 30)
  have q0 := cell_to (show (w.alloc (.cells #[.slice a n ca] 30)).cell? ⟨w.heap.size, 0, none⟩ = some (.slice a n ca) by simp) (below_one _ (.cells #[.slice b m cb] 30))
  have q1 : ((w.alloc (.cells #[.slice a n ca] 30)).alloc (.cells #[.slice b m cb] 30)).cell? ⟨w.heap.size + 1, 0, none⟩ = some (.slice b m cb) := by simp
  have HV := Lib.hid (fun V => spec_void a n ca V)
  have HC := Lib.hid (fun V (h : Below w.heap.size w V) => spec_lcor a n ca ps V hl hn (rok_all hp) (hA.below h))
  have HH := Lib.hid (fun V (h : Below w.heap.size w V) x y d (o : okS x y d = true) => spec_lhas b m cb qs x y d V hk hm (rok_all hq) o (hB.below h))
  have HP := Lib.hid hp
  have HL := Lib.hid hl
  clear hl hk hA hB hp hq
  go_enter Try.func43, Try.ntmps43
  go_wp2_with fail
  generalize (w.alloc (.cells #[.slice a n ca] 30)).alloc (.cells #[.slice b m cb] 30) = V at *
  refine (HV.out _).mono ?_
  rintro e w1 ⟨rfl, bl1⟩
  have b1 := below_to bV bl1
  have p0 := cell_to q0 bl1
  have p1 := cell_to q1 bl1
  clear bV q0 q1 bl1 HV
  by_cases h0 : n = 0
  · have HN := Lib.hid (show lwB ps qs = true by unfold lwB; rw [len_nil HL.out h0]; rfl)
    have hb : ((n : Int) == 0) = true := by subst h0; rfl
    go_wp2
    go_ret
    exact ⟨ret_bool HN.out.symm, b1⟩
  · have hb : ((n : Int) == 0) = false := eq_b (by omega)
    have hne := len_ne HL.out h0
    go_wp2_with fail
    refine (HC.out _ b1).mono ?_
    rintro e w2 ⟨ao, cp, rfl, ho, bl2⟩
    have b2 := below_to b1 bl2
    have r1 := cell_to p1 bl2
    have HO := Lib.hid (own_hs ho)
    have HE := Lib.hid (show corL ps n = corL ps ps.length by rw [HL.out])
    rw [corL_len]
    clear ho bl2 p0 p1 b1 HC
    go_wp2
    go_loopw [12] (fun i wr => ∃ k : Nat, k ≤ n ∧ i = .int .i64 k ∧ (∀ j c, j < k → (corL ps n)[j]? = some c → lhaB qs c.a c.b c.c = true) ∧ Below w2.heap.size w2 wr) (fun i _ => n - (intOf i).toNat)
    case atStart => exact ⟨0, Nat.zero_le _, rfl, fun j c h => by omega, Below.refl _ _⟩
    case round =>
      obtain ⟨k, hk, rfl, ht, hbel⟩ := hrel
      have HT := Lib.hid ht
      have hbw := below_to b2 hbel
      have s1 := cell_to r1 hbel
      clear ht
      by_cases hlt : k < n
      · have hx := corL_get ps hlt
        have ho := (cnr_facts HP.out hne (i := k) (by rw [HL.out]; exact hlt)).1
        generalize crA ps k = c at *
        obtain ⟨xa, xb, xc⟩ := c
        obtain ⟨g, o, rfl, hc⟩ := HO.out k _ hx
        obtain ⟨t1, t2, t3⟩ := hc.to hbel
        simp only at t1 t2 t3 ho
        have HX := Lib.hid hx
        have bn := below_one wr (.cells #[.int .i64 xa, .int .i64 xb, .int .i64 xc] 50)
        have s2 := cell_to s1 bn
        have HD := Lib.hid (fun W (h : Below w.heap.size w W) => HH.out W h xa xb xc ho)
        clear hx hc ho
        cases hr : lhaB qs xa xb xc with
        | false =>
          have HN := Lib.hid (lw_no (qs := qs) (c := ⟨xa, xb, xc⟩) hne (by rw [← HE.out]; exact HX.out) hr)
          rw [hr] at HD
          clear hr
          go_wp2_with fail
          refine (HD.out _ (below_to hbw bn)).mono ?_
          rintro e w4 ⟨rfl, bl4⟩
          go_wp2
          go_ret
          exact ⟨ret_bool HN.out.symm, below_to (below_to hbw bn) bl4⟩
        | true =>
          have HN := Lib.hid hr
          rw [hr] at HD
          clear hr
          go_wp2_with fail
          refine (HD.out _ (below_to hbw bn)).mono ?_
          rintro e w4 ⟨rfl, bl4⟩
          go_wp2
          go_roundw
          case rel =>
            refine ⟨k + 1, by omega, by go_num, fun j c hj hc => ?_, below_to (below_to hbel bn) bl4⟩
            rcases Nat.lt_or_ge j k with q | q
            · exact HT.out j c q hc
            · obtain rfl : j = k := by omega
              rw [HX.out] at hc
              cases hc
              exact HN.out
          case measure => simp [intOf]; omega
      · obtain rfl : k = n := by omega
        have HN := Lib.hid (show lwB ps qs = true by
          unfold lwB
          rw [← HE.out, Bool.or_eq_true]
          refine .inr (List.all_eq_true.2 fun c hc => ?_)
          obtain ⟨j, hj⟩ := List.getElem?_of_mem hc
          have := (List.getElem?_eq_some_iff.1 hj).1
          rw [corL_len] at this
          exact HT.out j c this hj)
        go_wp2
        go_ret
        exact ⟨ret_bool HN.out.symm, hbw⟩
set_option maxRecDepth 100000 in
set_option maxHeartbeats 1600000 in
theorem spec_wi (a b : Option Addr) (n m ca cb : Nat) (ps qs : List H3) (w : World) (hl : ps.length = n) (hk : qs.length = m) (hn : n ≤ 1048576) (hm : m ≤ 1048576) (h64 : ∀ h ∈ ps, In64 h) (k64 : ∀ h ∈ qs, In64 h) (hz : a = none → n = 0 ∧ ca = 0) (kz : b = none → m = 0 ∧ cb = 0) (hA : HsAt w a ps) (hB : HsAt w b qs) :
    Calls Try.prog 17 #[.agg #[.slice a n ca], .agg #[.slice b m cb]] w fun e w' => e = .returned (.bool (wiB ps qs)) ∧ Below w.heap.size w w' := by
  have bV := below_bx2 (below_one w (.cells #[.slice a n ca] 30)) (.cells #[.slice b m cb] 30)
  have q0 := cell_to (show (w.alloc (.cells #[.slice a n ca] 30)).cell? ⟨w.heap.size, 0, none⟩ = some (.slice a n ca) by simp) (below_one _ (.cells #[.slice b m cb] 30))
  have q1 : ((w.alloc (.cells #[.slice a n ca] 30)).alloc (.cells #[.slice b m cb] 30)).cell? ⟨w.heap.size + 1, 0, none⟩ = some (.slice b m cb) := by simp
  have HR := Lib.hid (fun V (h : Below w.heap.size w V) => spec_rok a n ca ps V hl hn h64 hz (hA.below h))
  have HS := Lib.hid (fun V (h : Below w.heap.size w V) => spec_rok b m cb qs V hk hm k64 kz (hB.below h))
  have HW := Lib.hid (fun V (h : Below w.heap.size w V) (p : rokB ps = true) (q : rokB qs = true) => spec_lwi a b n m ca cb ps qs V hl hk hn hm p q (hA.below h) (hB.below h))
  clear hl hk hA hB h64 k64 hz kz
  go_enter Try.func17, Try.ntmps17
  go_wp2_with fail
  generalize (w.alloc (.cells #[.slice a n ca] 30)).alloc (.cells #[.slice b m cb] 30) = V at *
  refine (HR.out _ bV).mono ?_
  rintro e w1 ⟨rfl, bl1⟩
  have b1 := below_to bV bl1
  have p0 := cell_to q0 bl1
  have p1 := cell_to q1 bl1
  clear bV q0 q1 bl1 HR
  cases hr : rokB ps with
  | false =>
    have HN := Lib.hid (wi_no1 (qs := qs) hr)
    clear hr
    go_wp2
    go_ret
    exact ⟨ret_bool HN.out.symm, b1⟩
  | true =>
    have HP := Lib.hid hr
    clear hr
    go_wp2_with fail
    refine (HS.out _ b1).mono ?_
    rintro e w2 ⟨rfl, bl2⟩
    have b2 := below_to b1 bl2
    have q0 := cell_to p0 bl2
    have q1 := cell_to p1 bl2
    clear b1 p0 p1 bl2 HS
    cases hr : rokB qs with
    | false =>
      have HN := Lib.hid (wi_no2 (ps := ps) hr)
      clear hr
      go_wp2
      go_ret
      exact ⟨ret_bool HN.out.symm, b2⟩
    | true =>
      have HQ := Lib.hid hr
      clear hr
      have HN := Lib.hid (lw_wi HP.out HQ.out)
      have HX := Lib.hid (HW.out w2 b2 HP.out HQ.out)
      generalize lwB ps qs = r at *
      clear HW
      go_wp2_with fail
      refine HX.out.mono ?_
      rintro e w3 ⟨rfl, bl3⟩
      go_wp2
      go_ret
      exact ⟨ret_bool HN.out, below_to b2 bl3⟩
set_option maxHeartbeats 3200000 in
theorem law_wi (a : Option Addr) (n cap : Nat) (hs : List H3) (b : Option Addr) (m cb : Nat) (ks : List H3) (w : World) (hl : hs.length = n) (hn : n ≤ maxLen) (h64 : ∀ h ∈ hs, In64 h) (hA : HsAt w a hs) (hl2 : ks.length = m) (hn2 : m ≤ maxLen) (k64 : ∀ h ∈ ks, In64 h) (hB : HsAt w b ks) :
    Calls Try.prog 4 #[.agg #[.slice a n cap], .agg #[.slice b m cb]] w fun e w' => e = .returned (.bool true) ∧ Below w.heap.size w w' := by
  by_cases hle : (n : Int) ≤ 1048576
  · by_cases hle2 : (m : Int) ≤ 1048576 - n
    · have HT := Lib.hid (fun V (h : Below w.heap.size w V) => to_region2 a n cap hs V hl (by omega) (hA.below h))
      have HU := Lib.hid (fun V (h : Below w.heap.size w V) => to_region2 b m cb ks V hl2 (by omega) (hB.below h))
      have HE := Lib.hid (fun V a1 a2 c1 c2 (h1 : HsAt V a1 hs) (h2 : HsAt V a2 hs) => eq_region a1 a2 n c1 c2 hs V hl (by omega) h1 h2)
      have HF := Lib.hid (fun V a1 a2 c1 c2 (h1 : HsAt V a1 ks) (h2 : HsAt V a2 ks) => eq_region a1 a2 m c1 c2 ks V hl2 (by omega) h1 h2)
      have HZ := Lib.hid (fun V => sz_region a n cap V hn 1048576 (by omega) (by omega) (1048576 - n) (by rw [if_pos hle]))
      have HY := Lib.hid (fun V => sz_region b m cb V hn2 (1048576 - n) (by omega) (by omega) (1048576 - n - m) (by rw [if_pos hle2]))
      have HS := Lib.hid (fun V a1 a2 c1 c2 (h0 : a1 = none → n = 0 ∧ c1 = 0) (k0 : a2 = none → m = 0 ∧ c2 = 0) (h1 : HsAt V a1 hs) (h2 : HsAt V a2 ks) => spec_wi a1 a2 n m c1 c2 hs ks V hl hl2 (by omega) (by omega) h64 k64 h0 k0 h1 h2)
      have HI := Lib.hid (fun V a1 a2 c1 c2 (h1 : HsAt V a1 hs) (h2 : HsAt V a2 ks) => impl_wi a1 a2 n m c1 c2 hs ks V hl hl2 (by omega) (by omega) h64 k64 h1 h2)
      generalize wiB hs ks = r at *
      clear hn hA hl hn2 hB hl2 h64 k64
      go_enter Try.func4, Try.ntmps4
      go_wp2_with fail
      refine (HZ.out _).mono ?_
      rintro e w1 ⟨rfl, bl1⟩
      have q1 := cell_to (show ((w.alloc (.cells #[.slice a n cap] 24)).alloc (.cells #[.slice b m cb] 24)).cell? ⟨w.heap.size, 0, none⟩ = some (.slice a n cap) by simp) bl1
      have p1 := cell_to (show ((w.alloc (.cells #[.slice a n cap] 24)).alloc (.cells #[.slice b m cb] 24)).cell? ⟨w.heap.size + 1, 0, none⟩ = some (.slice b m cb) by simp) bl1
      have b1 := below_to (below_bx2 (below_one _ _) _) bl1
      clear bl1
      go_wp2_with fail
      refine (HY.out _).mono ?_
      rintro e w2 ⟨rfl, bl2⟩
      have b2 := below_to b1 bl2
      have q2 := cell_to q1 bl2
      have p2 := cell_to p1 bl2
      clear bl2 b1 q1 p1
      go_wp2
      go_cut [6] from 20 to 24 (fun x wx => x = .bool r ∧ Below w2.heap.size w2 wx)
      case first =>
        go_region_held3 (fun w' => w'.cell? ⟨w.heap.size, 0, none⟩ = some (.slice a n cap) ∧ w'.cell? ⟨w.heap.size + 1, 0, none⟩ = some (.slice b m cb))
          ((refine twoc q2 p2 ?_; repeat (first | exact Below.refl _ _ | refine below_drw ?_ | refine below_to ?_ (by assumption))))
          (first | (go_at_call 11; first | ((with_reducible refine (HT.out _ ?_).mono ?_); (focus (repeat (first | exact b2 | refine below_drw ?_ | refine below_to ?_ (by assumption)))); rintro e w3 ⟨ao3, cp3, rfl, ho3, bl3⟩) | ((with_reducible refine (HU.out _ ?_).mono ?_); (focus (repeat (first | exact b2 | refine below_drw ?_ | refine below_to ?_ (by assumption)))); rintro e w4 ⟨ao4, cp4, rfl, ho4, bl4⟩)) | (go_at_call 17; (with_reducible refine (HS.out _ _ _ _ _ (own_nil ho3) (own_nil ho4) ?_ ?_).mono ?_); (focus ((refine (own_hs ho3).below ?_); repeat (first | exact Below.refl _ _ | refine below_drw ?_ | refine below_to ?_ (by assumption)))); (focus ((refine (own_hs ho4).below ?_); repeat (first | exact Below.refl _ _ | refine below_drw ?_ | refine below_to ?_ (by assumption)))); rintro e w5 ⟨rfl, bl5⟩))
        all_goals
          go_wp2_with fail
          go_meet
          refine ⟨rfl, ?_⟩
          repeat (first | exact Below.refl _ _ | refine below_drw ?_ | refine below_to ?_ (by assumption))
      case rest =>
        obtain ⟨rfl, bl3⟩ := hcut
        have b3 := below_to b2 bl3
        have q3 := cell_to q2 bl3
        have p3 := cell_to p2 bl3
        clear bl3 b2 q2 p2
        go_wp2_with fail
        refine (HT.out _ b3).mono ?_
        rintro e w4 ⟨ao4, cp4, rfl, ho4, bl4⟩
        have b4 := below_to b3 bl4
        have q4 := cell_to (cell_to q3 bl4) (below_one _ (.cells #[.slice ao4 n cp4] 30))
        have p4 := cell_to (cell_to p3 bl4) (below_one _ (.cells #[.slice ao4 n cp4] 30))
        have x4 : (w4.alloc (.cells #[.slice ao4 n cp4] 30)).cell? ⟨w4.heap.size, 0, none⟩ = some (.slice ao4 n cp4) := by simp
        have H4 := Lib.hid (own_below ho4 (below_one _ (.cells #[.slice ao4 n cp4] 30)))
        have bb4 := below_bx2 b4 (.cells #[.slice ao4 n cp4] 30)
        clear ho4 bl4 b3 q3 p3 b4
        go_wp2_with fail
        refine (HU.out _ bb4).mono ?_
        rintro e w5 ⟨ao5, cp5, rfl, ho5, bl5⟩
        have b5 := below_bx2 (below_to bb4 bl5) (.cells #[.slice ao5 m cp5] 30)
        have q5 := cell_to (cell_to q4 bl5) (below_one _ (.cells #[.slice ao5 m cp5] 30))
        have p5 := cell_to (cell_to p4 bl5) (below_one _ (.cells #[.slice ao5 m cp5] 30))
        have x5 := cell_to (cell_to x4 bl5) (below_one _ (.cells #[.slice ao5 m cp5] 30))
        have y5 : (w5.alloc (.cells #[.slice ao5 m cp5] 30)).cell? ⟨w5.heap.size, 0, none⟩ = some (.slice ao5 m cp5) := by simp
        have H5 := Lib.hid (own_below (own_below H4.out bl5) (below_one _ (.cells #[.slice ao5 m cp5] 30)))
        have K5 := Lib.hid (own_below ho5 (below_one _ (.cells #[.slice ao5 m cp5] 30)))
        have hz5 := bl5.size
        simp at hz5
        clear ho5 bl5 bb4 q4 p4 x4 H4
        generalize w4.heap.size = x at *
        go_wp2_with fail
        refine (HI.out _ _ _ _ _ (own_hs H5.out) (own_hs K5.out)).mono ?_
        rintro e w6 ⟨rfl, bl6⟩
        have b6 := below_to b5 bl6
        have q6 := cell_to q5 bl6
        have p6 := cell_to p5 bl6
        have x6 := cell_to x5 bl6
        have y6 := cell_to y5 bl6
        have H6 := Lib.hid (own_below H5.out bl6)
        have K6 := Lib.hid (own_below K5.out bl6)
        clear bl6 b5 q5 p5 x5 y5 H5 K5
        generalize w5.heap.size = y at *
        go_wp2
        go_cut [39] from 35 to 39 (fun x wx => x = .bool false ∧ Below w6.heap.size w6 wx)
        case first =>
          go_region_held3 (fun w' => w'.cell? ⟨x, 0, none⟩ = some (.slice ao4 n cp4) ∧ w'.cell? ⟨w.heap.size, 0, none⟩ = some (.slice a n cap))
            ((refine twoc x6 q6 ?_; repeat (first | exact Below.refl _ _ | refine below_drw ?_ | refine below_to ?_ (by assumption))))
            (first | (go_at_call 11; (with_reducible refine (HT.out _ ?_).mono ?_); (focus (repeat (first | exact b6 | refine below_drw ?_ | refine below_to ?_ (by assumption)))); rintro e w7 ⟨ao7, cp7, rfl, ho7, bl7⟩) | (go_at_call 14; (with_reducible refine (HE.out _ _ _ _ _ ?_ ?_).mono ?_); (focus ((refine (own_hs H6.out).below ?_); repeat (first | exact Below.refl _ _ | refine below_drw ?_ | refine below_to ?_ (by assumption)))); (focus (exact own_hs ho7)); rintro e w8 ⟨rfl, bl8⟩))
          all_goals
            go_wp2_with fail
            go_meet
            refine ⟨rfl, ?_⟩
            repeat (first | exact Below.refl _ _ | refine below_drw ?_ | refine below_to ?_ (by assumption))
        case rest =>
          obtain ⟨rfl, bl7⟩ := hcut
          have b7 := below_to b6 bl7
          have p7 := cell_to p6 bl7
          have y7 := cell_to y6 bl7
          have K7 := Lib.hid (own_below K6.out bl7)
          clear bl7 b6 p6 y6 K6 H6 q6 x6
          go_wp2
          go_region_held3 (fun w' => w'.cell? ⟨y, 0, none⟩ = some (.slice ao5 m cp5) ∧ w'.cell? ⟨w.heap.size + 1, 0, none⟩ = some (.slice b m cb))
            ((refine twoc y7 p7 ?_; repeat (first | exact Below.refl _ _ | refine below_drw ?_ | refine below_to ?_ (by assumption))))
            (first | (go_at_call 11; (with_reducible refine (HU.out _ ?_).mono ?_); (focus (repeat (first | exact b7 | refine below_drw ?_ | refine below_to ?_ (by assumption)))); rintro e w8 ⟨ao8, cp8, rfl, ho8, bl8⟩) | (go_at_call 14; (with_reducible refine (HF.out _ _ _ _ _ ?_ ?_).mono ?_); (focus ((refine (own_hs K7.out).below ?_); repeat (first | exact Below.refl _ _ | refine below_drw ?_ | refine below_to ?_ (by assumption)))); (focus (exact own_hs ho8)); rintro e w9 ⟨rfl, bl9⟩))
          all_goals
            go_wp2
            go_ret
            refine ⟨rfl, ?_⟩
            repeat (first | exact b7 | refine below_drw ?_ | refine below_to ?_ (by assumption))
    · have HZ := Lib.hid (fun V => sz_region a n cap V hn 1048576 (by omega) (by omega) (1048576 - n) (by rw [if_pos hle]))
      have HY := Lib.hid (fun V => sz_region b m cb V hn2 (1048576 - n) (by omega) (by omega) (-1) (by rw [if_neg hle2]))
      clear hn hA hl hn2 hB hl2 hle2 h64 k64
      go_enter Try.func4, Try.ntmps4
      go_wp2_with fail
      refine (HZ.out _).mono ?_
      rintro e w1 ⟨rfl, bl1⟩
      have p1 := cell_to (show ((w.alloc (.cells #[.slice a n cap] 24)).alloc (.cells #[.slice b m cb] 24)).cell? ⟨w.heap.size + 1, 0, none⟩ = some (.slice b m cb) by simp) bl1
      have b1 := below_to (below_bx2 (below_one _ _) _) bl1
      clear bl1
      go_wp2_with fail
      refine (HY.out _).mono ?_
      rintro e w2 ⟨rfl, bl2⟩
      have b2 := below_to b1 bl2
      go_wp2
      go_ret
      exact ⟨rfl, b2⟩
  · have HZ := Lib.hid (fun V => sz_region a n cap V hn 1048576 (by omega) (by omega) (-1) (by rw [if_neg hle]))
    clear hn hA hl hle hn2 hB hl2 h64 k64
    go_enter Try.func4, Try.ntmps4
    go_wp2_with fail
    refine (HZ.out _).mono ?_
    rintro e w1 ⟨rfl, bl1⟩
    go_wp2
    go_ret
    exact ⟨rfl, below_to (below_bx2 (below_one _ _) _) bl1⟩
end Go.Proofs.Ytckfmgldgjnepaa
