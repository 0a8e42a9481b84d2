/- SameRooms of the model over the translation. -/
import Derived.Test.YtefafkainfhhkaaKs
namespace Go.Proofs.Ytefafkainfhhkaa
open Go.RowKit
open Geo (H3)

set_option maxRecDepth 100000 in
set_option maxHeartbeats 3200000 in
theorem spec_sro (am : Option Addr) (nm cm : Nat) (zs : List Int) (q bx cy lo hi : Int) (an : Option Addr) (nn cn : Nat) (ps : List H3) (al : Option Addr) (nl cl : Nat) (qs : List H3) (am2 : Option Addr) (nm2 cm2 : Nat) (zs2 : List Int) (q2 bx2 cy2 lo2 hi2 : Int) (an2 : Option Addr) (nn2 cn2 : Nat) (ps2 : List H3) (al2 : Option Addr) (nl2 cl2 : Nat) (qs2 : List H3) (w : World) (b : Bool) (hb : srB zs q bx cy lo hi ps qs zs2 q2 bx2 cy2 lo2 hi2 ps2 qs2 = b) (hA : RAt w am nm zs an nn ps al nl qs) (hB : RAt w am2 nm2 zs2 an2 nn2 ps2 al2 nl2 qs2) (hle : nm + nn + nl ≤ 1048576) :
    Calls Try.prog 33 #[.agg #[.slice am nm cm, .int .i64 q, .int .i64 bx, .int .i64 cy, .int .i64 lo, .int .i64 hi, .slice an nn cn, .slice al nl cl], .agg #[.slice am2 nm2 cm2, .int .i64 q2, .int .i64 bx2, .int .i64 cy2, .int .i64 lo2, .int .i64 hi2, .slice an2 nn2 cn2, .slice al2 nl2 cl2]] w fun e w' => e = .returned (.bool b) ∧ Below w.heap.size w w' := by
  have bV := below_bx2 (below_one w (.cells #[.slice am nm cm, .int .i64 q, .int .i64 bx, .int .i64 cy, .int .i64 lo, .int .i64 hi, .slice an nn cn, .slice al nl cl] 52)) (.cells #[.slice am2 nm2 cm2, .int .i64 q2, .int .i64 bx2, .int .i64 cy2, .int .i64 lo2, .int .i64 hi2, .slice an2 nn2 cn2, .slice al2 nl2 cl2] 52)
  have K0 := (blk_new w #[.slice am nm cm, .int .i64 q, .int .i64 bx, .int .i64 cy, .int .i64 lo, .int .i64 hi, .slice an nn cn, .slice al nl cl] 52 rfl).to (below_one _ (.cells #[.slice am2 nm2 cm2, .int .i64 q2, .int .i64 bx2, .int .i64 cy2, .int .i64 lo2, .int .i64 hi2, .slice an2 nn2 cn2, .slice al2 nl2 cl2] 52))
  have K1 := blk_new (w.alloc (.cells #[.slice am nm cm, .int .i64 q, .int .i64 bx, .int .i64 cy, .int .i64 lo, .int .i64 hi, .slice an nn cn, .slice al nl cl] 52)) #[.slice am2 nm2 cm2, .int .i64 q2, .int .i64 bx2, .int .i64 cy2, .int .i64 lo2, .int .i64 hi2, .slice an2 nn2 cn2, .slice al2 nl2 cl2] 52 (b := w.heap.size + 1) (by simp)
  have HP := Lib.hid (fun V (h : Below w.heap.size w V) => spec_rsame an an2 nn nn2 cn cn2 ps ps2 V hA.ln hB.ln (by omega) (hA.hn.below h) (hB.hn.below h))
  have HQ := Lib.hid (fun V (h : Below w.heap.size w V) => spec_rsame al al2 nl nl2 cl cl2 qs qs2 V hA.ll hB.ll (by omega) (hA.hl.below h) (hB.hl.below h))
  have HN := Lib.hid (show (smB zs q bx cy zs2 q2 bx2 cy2 && decide (lo = lo2) && decide (hi = hi2) && sameB ps ps2 && sameB qs qs2) = b from hb)
  have HL := Lib.hid hA.lm
  have HM := Lib.hid hB.lm
  have HZ := Lib.hid hA.hm
  have HY := Lib.hid hB.hm
  clear hA hB hb
  generalize sameB ps ps2 = r4 at *
  generalize sameB qs qs2 = r5 at *
  rcases Nat.lt_trichotomy nm nm2 with hlt | hnm | hlt
  · skip
    have HF := Lib.hid (show false = b by rw [← HN.out]; unfold smB; rw [sameI_len HL.out HM.out (by omega)]; simp)
    have e0 : ((nm : Int) != (nm2 : Int)) = true := by simp; omega
    clear hlt
    go_enter Try.func33, Try.ntmps33
    have k0 := K0.c8_0
    have l0 := K1.c8_0
    have k1 := K0.c8_1
    have l1 := K1.c8_1
    have k2 := K0.c8_2
    have l2 := K1.c8_2
    have k3 := K0.c8_3
    have l3 := K1.c8_3
    have k4 := K0.c8_4
    have l4 := K1.c8_4
    have k5 := K0.c8_5
    have l5 := K1.c8_5
    have k6 := K0.c8_6
    have l6 := K1.c8_6
    have k7 := K0.c8_7
    have l7 := K1.c8_7
    go_wp2
    go_ret
    exact ⟨ret_bool HF.out, bV⟩
  rotate_left
  · skip
    have HF := Lib.hid (show false = b by rw [← HN.out]; unfold smB; rw [sameI_len HL.out HM.out (by omega)]; simp)
    have e0 : ((nm : Int) != (nm2 : Int)) = true := by simp; omega
    clear hlt
    go_enter Try.func33, Try.ntmps33
    have k0 := K0.c8_0
    have l0 := K1.c8_0
    have k1 := K0.c8_1
    have l1 := K1.c8_1
    have k2 := K0.c8_2
    have l2 := K1.c8_2
    have k3 := K0.c8_3
    have l3 := K1.c8_3
    have k4 := K0.c8_4
    have l4 := K1.c8_4
    have k5 := K0.c8_5
    have l5 := K1.c8_5
    have k6 := K0.c8_6
    have l6 := K1.c8_6
    have k7 := K0.c8_7
    have l7 := K1.c8_7
    go_wp2
    go_ret
    exact ⟨ret_bool HF.out, bV⟩
  subst hnm
  by_cases h_q : q = q2
  rotate_left
  · skip
    have HF := Lib.hid (show false = b by rw [← HN.out]; unfold smB; simp [h_q])
    have e_q : (q != q2) = true := by simpa using h_q
    clear h_q
    go_enter Try.func33, Try.ntmps33
    have k0 := K0.c8_0
    have l0 := K1.c8_0
    have k1 := K0.c8_1
    have l1 := K1.c8_1
    have k2 := K0.c8_2
    have l2 := K1.c8_2
    have k3 := K0.c8_3
    have l3 := K1.c8_3
    have k4 := K0.c8_4
    have l4 := K1.c8_4
    have k5 := K0.c8_5
    have l5 := K1.c8_5
    have k6 := K0.c8_6
    have l6 := K1.c8_6
    have k7 := K0.c8_7
    have l7 := K1.c8_7
    go_wp2
    go_ret
    exact ⟨ret_bool HF.out, bV⟩
  subst h_q
  by_cases h_bx : bx = bx2
  rotate_left
  · skip
    have HF := Lib.hid (show false = b by rw [← HN.out]; unfold smB; simp [h_bx])
    have e_bx : (bx != bx2) = true := by simpa using h_bx
    clear h_bx
    go_enter Try.func33, Try.ntmps33
    have k0 := K0.c8_0
    have l0 := K1.c8_0
    have k1 := K0.c8_1
    have l1 := K1.c8_1
    have k2 := K0.c8_2
    have l2 := K1.c8_2
    have k3 := K0.c8_3
    have l3 := K1.c8_3
    have k4 := K0.c8_4
    have l4 := K1.c8_4
    have k5 := K0.c8_5
    have l5 := K1.c8_5
    have k6 := K0.c8_6
    have l6 := K1.c8_6
    have k7 := K0.c8_7
    have l7 := K1.c8_7
    go_wp2
    go_ret
    exact ⟨ret_bool HF.out, bV⟩
  subst h_bx
  by_cases h_cy : cy = cy2
  rotate_left
  · skip
    have HF := Lib.hid (show false = b by rw [← HN.out]; unfold smB; simp [h_cy])
    have e_cy : (cy != cy2) = true := by simpa using h_cy
    clear h_cy
    go_enter Try.func33, Try.ntmps33
    have k0 := K0.c8_0
    have l0 := K1.c8_0
    have k1 := K0.c8_1
    have l1 := K1.c8_1
    have k2 := K0.c8_2
    have l2 := K1.c8_2
    have k3 := K0.c8_3
    have l3 := K1.c8_3
    have k4 := K0.c8_4
    have l4 := K1.c8_4
    have k5 := K0.c8_5
    have l5 := K1.c8_5
    have k6 := K0.c8_6
    have l6 := K1.c8_6
    have k7 := K0.c8_7
    have l7 := K1.c8_7
    go_wp2
    go_ret
    exact ⟨ret_bool HF.out, bV⟩
  subst h_cy
  by_cases h_lo : lo = lo2
  rotate_left
  · skip
    have HF := Lib.hid (show false = b by rw [← HN.out]; simp [h_lo])
    have e_lo : (lo != lo2) = true := by simpa using h_lo
    clear h_lo
    go_enter Try.func33, Try.ntmps33
    have k0 := K0.c8_0
    have l0 := K1.c8_0
    have k1 := K0.c8_1
    have l1 := K1.c8_1
    have k2 := K0.c8_2
    have l2 := K1.c8_2
    have k3 := K0.c8_3
    have l3 := K1.c8_3
    have k4 := K0.c8_4
    have l4 := K1.c8_4
    have k5 := K0.c8_5
    have l5 := K1.c8_5
    have k6 := K0.c8_6
    have l6 := K1.c8_6
    have k7 := K0.c8_7
    have l7 := K1.c8_7
    go_wp2
    go_ret
    exact ⟨ret_bool HF.out, bV⟩
  subst h_lo
  by_cases h_hi : hi = hi2
  rotate_left
  · skip
    have HF := Lib.hid (show false = b by rw [← HN.out]; simp [h_hi])
    have e_hi : (hi != hi2) = true := by simpa using h_hi
    clear h_hi
    go_enter Try.func33, Try.ntmps33
    have k0 := K0.c8_0
    have l0 := K1.c8_0
    have k1 := K0.c8_1
    have l1 := K1.c8_1
    have k2 := K0.c8_2
    have l2 := K1.c8_2
    have k3 := K0.c8_3
    have l3 := K1.c8_3
    have k4 := K0.c8_4
    have l4 := K1.c8_4
    have k5 := K0.c8_5
    have l5 := K1.c8_5
    have k6 := K0.c8_6
    have l6 := K1.c8_6
    have k7 := K0.c8_7
    have l7 := K1.c8_7
    go_wp2
    go_ret
    exact ⟨ret_bool HF.out, bV⟩
  subst h_hi
  have HN2 := Lib.hid (show (sameI zs zs2 && r4 && r5) = b by rw [← HN.out]; unfold smB; simp)
  clear HN
  go_enter Try.func33, Try.ntmps33
  have k0 := K0.c8_0
  have l0 := K1.c8_0
  have k1 := K0.c8_1
  have l1 := K1.c8_1
  have k2 := K0.c8_2
  have l2 := K1.c8_2
  have k3 := K0.c8_3
  have l3 := K1.c8_3
  have k4 := K0.c8_4
  have l4 := K1.c8_4
  have k5 := K0.c8_5
  have l5 := K1.c8_5
  have k6 := K0.c8_6
  have l6 := K1.c8_6
  have k7 := K0.c8_7
  have l7 := K1.c8_7
  go_wp2
  generalize (w.alloc (.cells #[.slice am nm cm, .int .i64 q, .int .i64 bx, .int .i64 cy, .int .i64 lo, .int .i64 hi, .slice an nn cn, .slice al nl cl] 52)).alloc (.cells #[.slice am2 nm cm2, .int .i64 q, .int .i64 bx, .int .i64 cy, .int .i64 lo, .int .i64 hi, .slice an2 nn2 cn2, .slice al2 nl2 cl2] 52) = V at *
  go_loop [52] (fun i => ∃ k : Nat, k ≤ nm ∧ i = .int .i64 k ∧ zs.take k = zs2.take k) (fun i => nm - (intOf i).toNat)
  case atStart => exact ⟨0, Nat.zero_le _, rfl, by simp⟩
  case round =>
    obtain ⟨k, hk, rfl, ht⟩ := hrel
    have HT := Lib.hid ht
    clear ht
    by_cases hlt : k < nm
    · obtain ⟨x, hx⟩ : ∃ x, zs[k]? = some x := ⟨_, List.getElem?_eq_getElem (by rw [HL.out]; exact hlt)⟩
      obtain ⟨y, hy⟩ : ∃ x, zs2[k]? = some x := ⟨_, List.getElem?_eq_getElem (by rw [HM.out]; exact hlt)⟩
      obtain ⟨g, o, rfl, t1⟩ := HZ.out k _ hx
      obtain ⟨g2, o2, rfl, s1⟩ := HY.out k _ hy
      have p1 := cell_to t1 bV
      have p2 := cell_to s1 bV
      have HX := Lib.hid hx
      have HYY := Lib.hid hy
      clear hx hy t1 s1
      by_cases he : x = y
      · subst he
        go_wp2
        go_round
        case rel => exact ⟨k + 1, by omega, by go_num, takeI_next HX.out HYY.out HT.out⟩
        case measure => simp [intOf]; omega
      · have HF := Lib.hid (show false = b by rw [← HN2.out, sameI_at HX.out HYY.out he]; rfl)
        have hb : (x != y) = true := by simpa using he
        clear he
        go_wp2
        go_ret
        exact ⟨ret_bool HF.out, bV⟩
    · have hkn : k = nm := by omega
      subst hkn
      have HR := Lib.hid (show (r4 && r5) = b by rw [← HN2.out, sameI_all HL.out HM.out HT.out]; simp)
      go_wp2_with fail
      refine (HP.out _ bV).mono ?_
      rintro e w1 ⟨rfl, bl1⟩
      have b1 := below_to bV bl1
      have m1 := cell_to k7 bl1
      have m2 := cell_to l7 bl1
      clear k0 l0 k1 l1 k2 l2 k3 l3 k4 l4 k5 l5 k6 l6 k7 l7 bV bl1 HP
      cases r4 with
      | false =>
        have HF := Lib.hid (show false = b by rw [← HR.out]; rfl)
        go_wp2
        go_ret
        exact ⟨ret_bool HF.out, b1⟩
      | true =>
        have HF := Lib.hid (show r5 = b by rw [← HR.out]; rfl)
        go_wp2_with fail
        refine (HQ.out _ b1).mono ?_
        rintro e w2 ⟨rfl, bl2⟩
        have b2 := below_to b1 bl2
        go_wp2
        go_ret
        exact ⟨ret_bool HF.out, b2⟩
end Go.Proofs.Ytefafkainfhhkaa
