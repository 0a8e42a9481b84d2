/- The contract of the model's InnerSpot over the translation. -/
import Derived.Test.YtobmaajfdpcfmaaNa
namespace Go.Proofs.Ytobmaajfdpcfmaa
open Go.RowKit
open Geo (H3)

/-- the upper end of a column as the model keeps it: the same, or both say that there is nothing -/
def Hi (lo hi t : Int) : Prop := (hi = t ∨ hi < lo ∧ t ≤ -1001) ∧ -300000000 ≤ t ∧ t ≤ 300000000
theorem Hi.pos {lo hi t d : Int} (h : Hi lo hi t) (d1 : -150000000 ≤ d) : Hi lo (min hi d) (min t d) := by unfold Hi at *; omega
theorem Hi.neg {lo hi t d : Int} (h : Hi lo hi t) : Hi (max lo d) hi t := by unfold Hi at *; omega
theorem Hi.out (lo : Int) : Hi lo (lo - 1) (-1001) := by unfold Hi; omega
theorem Hi.le {lo hi t : Int} (h : Hi lo hi t) (l : -1000 ≤ lo) : lo ≤ hi ↔ lo ≤ t := by unfold Hi at h; omega
set_option maxRecDepth 100000 in
set_option maxHeartbeats 3200000 in
theorem spec_inn (a : Option Addr) (n cap : Nat) (hs : List H3) (w : World) (hl : hs.length = n) (hn : n ≤ 1048576) (h64 : ∀ h ∈ hs, In64 h) (hnil : a = none → n = 0 ∧ cap = 0) (hA : HsAt w a hs) :
    Calls Try.prog 60 #[.agg #[.slice a n cap]] w fun e w' => e = .returned (innV hs) ∧ Below w.heap.size w w' := by
  have bV := below_bx2 (below_one w (.cells #[.slice a n cap] 26)) (.cells #[.int .i64 0, .int .i64 0, .int .i64 0] 31)
  have q2 := cell_to (show (w.alloc (.cells #[.slice a n cap] 26)).cell? ⟨w.heap.size, 0, none⟩ = some (.slice a n cap) by simp) (below_one _ (.cells #[.int .i64 0, .int .i64 0, .int .i64 0] 31))
  have H0 := has3_new (w.alloc (.cells #[.slice a n cap] 26)) (.int .i64 0) (.int .i64 0) (.int .i64 0) 31
  rw [show (w.alloc (.cells #[.slice a n cap] 26)).heap.size = w.heap.size + 1 by simp] at H0
  have HV := Lib.hid (fun V => spec_void a n cap V)
  have HR := Lib.hid (fun V (h : Below w.heap.size w V) => spec_rok a n cap hs V hl hn h64 hnil (hA.below h))
  have HL := Lib.hid hl
  have HA := Lib.hid hA
  clear hl hA h64 hnil
  go_enter Try.func60, Try.ntmps60
  go_wp2_with fail
  generalize (w.alloc (.cells #[.slice a n cap] 26)).alloc (.cells #[.int .i64 0, .int .i64 0, .int .i64 0] 31) = V at *
  refine (HR.out _ bV).mono ?_
  rintro e w1 ⟨rfl, bl1⟩
  have b1 := below_to bV bl1
  have q3 := cell_to q2 bl1
  have H1 := Lib.hid (has3_to bl1 H0)
  clear bl1 bV q2 H0
  cases hr : rokB hs with
  | false =>
    have HY := Lib.hid (inn_rok hr)
    clear hr
    obtain ⟨p0, p1, p2, f0, f1, f2⟩ := H1.out
    go_wp2_with fail
    refine bodyPost_ret (v := .tuple #[.agg #[.int .i64 0, .int .i64 0, .int .i64 0], .bool false]) (by simp [results, Try.results60, go_sem, p0, p1, p2]) rfl ⟨by rw [HY.out], ?_⟩
    exact below_set3 _ _ _ b1 (by omega)
  | true =>
    have HQ := Lib.hid hr
    clear hr
    go_wp2_with fail
    refine (HV.out _).mono ?_
    rintro e w2 ⟨rfl, bl2⟩
    have b2 := below_to b1 bl2
    have q4 := cell_to q3 bl2
    have H2 := Lib.hid (has3_to bl2 H1.out)
    have l4 := block_lt_of_cell q4
    simp only at l4
    clear bl2 b1 q3 HR HV H1
    by_cases h0 : n = 0
    · have HY := Lib.hid (inn_nil HL.out h0)
      subst h0
      obtain ⟨p0, p1, p2, f0, f1, f2⟩ := H2.out
      go_wp2_with fail
      refine bodyPost_ret (v := .tuple #[.agg #[.int .i64 0, .int .i64 0, .int .i64 0], .bool false]) (by simp [results, Try.results60, go_sem, p0, p1, p2]) rfl ⟨by rw [HY.out], ?_⟩
      exact below_set3 _ _ _ b2 (by omega)
    · have hb : ((n : Int) == 0) = false := eq_b (by omega)
      have HY := Lib.hid (inn_pos HL.out h0 HQ.out)
      have HO := Lib.hid (rok_all HQ.out)
      clear h0
      go_wp2
      go_loopw [4] (fun x wr => ∃ k : Nat, k ≤ 2001 ∧ x = .int .i64 (-1000 + k) ∧ (∀ i : Nat, i < k → innP hs i = false) ∧ Below w2.heap.size w2 wr) (fun x _ => (1001 - intOf x).toNat)
      case atStart => exact ⟨0, by omega, rfl, fun i hi => by omega, Below.refl _ _⟩
      case round =>
        obtain ⟨k, hk, rfl, hm, hbel⟩ := hrel
        have HM := Lib.hid hm
        clear hm
        have hbw := below_to b2 hbel
        have p4 := cell_to q4 hbel
        have H3 := Lib.hid (has3_to hbel H2.out)
        have l5 := block_lt_of_cell p4
        simp only at l5
        by_cases hlt : k < 2001
        · have HX := Lib.hid (show innP hs k = decide ((colF (-1000 + k) hs).1 ≤ (colF (-1000 + k) hs).2) from rfl)
          have HH := Lib.hid (fun p => inn_hit HY.out hlt HM.out p)
          obtain ⟨x, hxe⟩ : ∃ x : Int, x = -1000 + k := ⟨_, rfl⟩
          have hx : -1000 ≤ x := by omega
          have hx2 : x ≤ 1000 := by omega
          have hk' : (k : Int) = x + 1000 := by omega
          have HK := Lib.hid hk'
          rw [← hxe] at HX HH ⊢
          clear hxe hk'
          rename World => wo
          go_wp2
          go_loopw [5, 6, 24] (fun l h i ws => ∃ (j : Nat) (lo hi t : Int), j ≤ n ∧ i = .int .i64 j ∧ l = .int .i64 lo ∧ h = .int .i64 t ∧ colF x (hs.take j) = (lo, hi) ∧ Hi lo hi t ∧ Below wo.heap.size wo ws) (fun _ _ i _ => n - (intOf i).toNat)
          case atStart => exact ⟨0, -1000, 1000, 1000, Nat.zero_le _, rfl, rfl, rfl, by simp [colF], by unfold Hi; omega, Below.refl _ _⟩
          case round =>
            obtain ⟨j, lo, hi, t, hj, rfl, rfl, rfl, ht, hh, hbs⟩ := hrel
            have HT := Lib.hid ht
            have HJ := Lib.hid hh
            have hbv := below_to hbw hbs
            obtain ⟨c1, c2, c3, c4⟩ := (show colOk (lo, hi) by rw [← ht]; exact colF_ok hx hx2 fun z hz => HO.out z (List.mem_of_mem_take hz))
            obtain ⟨_, e3, e4⟩ := hh
            simp only at c1 c2 c3 c4
            clear ht
            by_cases hjl : j < n
            · obtain ⟨⟨za, zb, zc⟩, hz⟩ : ∃ z, hs[j]? = some z := ⟨_, List.getElem?_eq_getElem (by rw [HL.out]; exact hjl)⟩
              obtain ⟨g, o, rfl, hc⟩ := HA.out j _ hz
              obtain ⟨t1, t2, t3⟩ := hc.to hbv
              have l1 := block_lt_of_cell t1
              obtain ⟨h1, h2, h3, h4, h5, h6⟩ := okB_bnd (HO.out _ (List.mem_of_getElem? hz))
              simp only at t1 t2 t3 l1 h1 h2 h3 h4 h5 h6
              obtain ⟨m1, m2⟩ := mul_bnd h1 h2 hx hx2
              have HZ := Lib.hid (show colF x (hs.take (j + 1)) = colS x (lo, hi) ⟨za, zb, zc⟩ by rw [colF_next hz, HT.out])
              clear hz hc
              have bN := Lib.hid (hbs.trans ((below_one wr (.cells #[.int .i64 za, .int .i64 zb, .int .i64 zc] 34)).mono hbs.size))
              by_cases p : 0 < zb
              · have HW := Lib.hid (HZ.out.trans (col_pos p))
                have HF := Lib.hid (fun W => spec_floor (zc - za * x) zb W p (by omega) (by omega) (by omega))
                obtain ⟨d1, d2⟩ := div_bnd (a := zc - za * x) p (by omega) (by omega)
                have HP := Lib.hid (HJ.out.pos d1)
                rw [min_if t] at HP
                simp only at HW
                go_wp2_with (go_at_call 107; (with_reducible refine (HF.out _).mono ?_); rintro e w3 ⟨rfl, rfl⟩)
                go_roundw
                case rel => exact ⟨j + 1, _, _, _, by omega, by go_num, rfl, rfl, HW.out, HP.out, bN.out⟩
                case measure => simp [intOf]; omega
              · by_cases q : zb < 0
                · have HW := Lib.hid (HZ.out.trans (col_neg q))
                  have HF := Lib.hid (fun W => spec_floor (zc - za * x) (-zb) W (by omega) (by omega) (by omega) (by omega))
                  obtain ⟨d1, d2⟩ := div_bnd (a := zc - za * x) (b := -zb) (by omega) (by omega) (by omega)
                  simp only at HW
                  generalize (zc - za * x) / (-zb) = u at HW HF d1 d2
                  have HP := Lib.hid (HJ.out.neg (d := -u))
                  rw [max_if] at HP HW
                  go_wp2_with (go_at_call 107; (with_reducible refine (HF.out _).mono ?_); rintro e w3 ⟨rfl, rfl⟩)
                  go_roundw
                  case rel => exact ⟨j + 1, _, _, _, by omega, by go_num, rfl, rfl, HW.out, HP.out, bN.out⟩
                  case measure => simp [intOf]; omega
                · have z0 : zb = 0 := by omega
                  subst z0
                  by_cases r : zc < za * x
                  · have HW := Lib.hid (HZ.out.trans (col_out rfl (by simp only; omega)))
                    have HP := Lib.hid (Hi.out lo)
                    go_wp2
                    go_roundw
                    case rel => exact ⟨j + 1, _, _, _, by omega, by go_num, rfl, rfl, HW.out, HP.out, bN.out⟩
                    case measure => simp [intOf]; omega
                  · have HW := Lib.hid (HZ.out.trans (col_in rfl (by simp only; omega)))
                    go_wp2
                    go_roundw
                    case rel => exact ⟨j + 1, _, _, _, by omega, by go_num, rfl, rfl, HW.out, HJ.out, bN.out⟩
                    case measure => simp [intOf]; omega
            · obtain rfl : j = n := by omega
              have HW := Lib.hid (show colF x hs = (lo, hi) by have := HT.out; rwa [List.take_of_length_le (by rw [HL.out]; omega)] at this)
              rw [HW.out] at HX HH
              simp only at HX HH
              have H4 := Lib.hid (has3_to hbs H3.out)
              have hle := HJ.out.le c1
              by_cases hlh : lo ≤ t
              · have HG := Lib.hid (HH.out (by rw [HX.out]; simpa using hle.2 hlh))
                clear HH HX hle
                obtain ⟨p0, p1, p2, f0, f1, f2⟩ := H4.out
                go_wp2_with fail
                refine bodyPost_ret (v := .tuple #[.agg #[.int .i64 x, .int .i64 lo, .int .i64 1], .bool true]) (by simp [results, Try.results60, go_sem, p0, p1, p2]) rfl ⟨by rw [HG.out], ?_⟩
                exact below_set3 _ _ _ hbv (by omega)
              · have HN := Lib.hid (inn_step HM.out (by rw [HX.out]; simpa using fun h => hlh (hle.1 h)))
                clear HH HX hle
                go_wp2
                go_roundw
                case rel => exact ⟨k + 1, by omega, by have := HK.out; go_num, HN.out, hbel.trans (hbs.mono hbel.size)⟩
                case measure => simp [intOf]; omega
        · obtain rfl : k = 2001 := by omega
          have HG := Lib.hid (inn_miss HY.out HM.out)
          obtain ⟨p0, p1, p2, f0, f1, f2⟩ := H3.out
          go_wp2_with fail
          refine bodyPost_ret (v := .tuple #[.agg #[.int .i64 0, .int .i64 0, .int .i64 0], .bool false]) (by simp [results, Try.results60, go_sem, p0, p1, p2]) rfl ⟨by rw [HG.out], ?_⟩
          exact below_set3 _ _ _ hbw (by omega)
end Go.Proofs.Ytobmaajfdpcfmaa
