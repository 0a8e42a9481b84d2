/- The contract of the model's l05Make over the translation: the region of valid half planes. -/
import Derived.Test.YtobmaajfdpcfmaaEd
import Derived.Laws.AppendOwnNone
import Derived.Maps.AppendAt
namespace Go.Proofs.Ytobmaajfdpcfmaa
open Go.RowKit
open Geo (H3)

theorem hs_cells {w : World} {ad : Addr} {hs : List H3} (h : HsAt w (some ad) hs) : ∀ j u, (flat hs)[j]? = some u → w.cell? (ad.add j) = some u := by
  intro j u hu
  have hj : j < hs.length * 3 := by have := (List.getElem?_eq_some_iff.1 hu).1; rwa [flat_len] at this
  obtain ⟨x, hx⟩ : ∃ x, hs[j / 3]? = some x := ⟨_, List.getElem?_eq_getElem (by omega)⟩
  obtain ⟨g, o, e, t1, t2, t3⟩ := h _ _ hx
  obtain rfl := Option.some.inj e
  obtain ⟨f1, f2, f3⟩ := flat_at hx
  rw [addr_add]
  rcases (by omega : j % 3 = 0 ∨ j % 3 = 1 ∨ j % 3 = 2) with r | r | r
  · rw [show j = j / 3 * 3 by omega] at hu ⊢
    rw [f1] at hu; rw [← Option.some.inj hu]; exact t1
  · rw [show j = j / 3 * 3 + 1 by omega] at hu ⊢
    rw [f2] at hu; rw [← Option.some.inj hu, ← Nat.add_assoc]; exact t2
  · rw [show j = j / 3 * 3 + 2 by omega] at hu ⊢
    rw [f3] at hu; rw [← Option.some.inj hu, ← Nat.add_assoc]; exact t3
theorem out_next (L : List H3) (k : Nat) : outE L (k + 1) = outE L k ++ (if edgB L k = true then [atI L k] else []) := by
  unfold outE
  rw [List.range_succ, List.filter_append, List.map_append]
  cases e : edgB L k <;> simp [e]
theorem out_len (L : List H3) (k : Nat) : (outE L k).length ≤ k := by
  unfold outE
  rw [List.length_map]
  have := List.length_filter_le (fun i => edgB L i) (List.range k)
  simpa using this
def MakW (w : World) (hs : List H3) (e : Ending) (w' : World) : Prop := ∃ ao cp, e = .returned (.agg #[.slice ao hs.length cp]) ∧ w'.ownsRow w.heap.size 34 3 (.slice ao hs.length cp) hs.length (flat hs) ∧ Below w.heap.size w w'
theorem MakW.of {w w' : World} {hs : List H3} {ao : Option Addr} {m cp : Nat} (ho : w'.ownsRow w.heap.size 34 3 (.slice ao m cp) m (flat hs)) (hb : Below w.heap.size w w') : MakW w hs (.returned (.agg #[.slice ao m cp])) w' := by
  obtain rfl := (own3_view ho).1
  exact ⟨ao, cp, rfl, ho, hb⟩
theorem own3_empty' (w : World) {B b : Nat} (hb : w.heap.size = b) (h : B ≤ b) : (w.alloc (.cells #[] 34)).ownsRow B 34 3 (.slice (some ⟨b, 0, none⟩) 0 0) 0 (flat []) := by
  subst hb; exact own3_empty w B h
set_option maxRecDepth 100000 in
set_option maxHeartbeats 4000000 in
/-- l05Make behind its first statement: the sorted list is there -/
theorem spec_make (a : Option Addr) (n cap : Nat) (hs : List H3) (w : World) (hl : hs.length = n) (hn : n ≤ 800) (hok : hs.all okB = true) (hnil : a = none → n = 0 ∧ cap = 0) (hA : HsAt w a hs) :
    Calls Try.prog 101 #[.slice a n cap] w (MakW w (modL hs)) := by
  obtain ⟨i0, hi, hz0, hz1, hz2⟩ := info_parts Try.info34
  have HL := Lib.hid hl
  have HA := Lib.hid hA
  have HOK := Lib.hid hok
  have HAL := Lib.hid (show (hs ++ Geo.frame).all okB = true by rw [List.all_append, hok]; decide)
  clear hl hA hok
  cases a with
  | none =>
    obtain ⟨rfl, rfl⟩ := hnil rfl
    have hse : hs = [] := List.eq_nil_of_length_eq_zero HL.out
    subst hse
    go_enter Try.func101, Try.ntmps101
    go_wp2_with (at_builtin; refine wpList_append_own_none rfl _ _ 23 rfl (w.heap.size + 1) 34 i0 3 Try.underlying23 hi (.slice (some ⟨w.heap.size + 1, 0, none⟩) 0 0) 0 (flat []) rfl (own3_empty' _ (by simp) (by simp)) rfl ?_)
    have bV := below_one w (.cells #[.slice none 0 0] 26)
    have q2 : (w.alloc (.cells #[.slice none 0 0] 26)).cell? ⟨w.heap.size, 0, none⟩ = some (.slice none 0 0) := by simp
    have f2 : (w.alloc (.cells #[.slice none 0 0] 26)).frozen? ⟨w.heap.size, 0, none⟩ = false := by simp
    have hVs : (w.alloc (.cells #[.slice none 0 0] 26)).heap.size = w.heap.size + 1 := by simp
    have b1 : Below (w.heap.size + 1) (w.alloc (.cells #[.slice none 0 0] 26)) ((w.alloc (.cells #[.slice none 0 0] 26)).alloc (.cells #[] 34)) := (below_one (w.alloc (.cells #[.slice none 0 0] 26)) (.cells #[] 34)).mono (by simp)
    have O1 := Lib.hid (own3_empty' (w.alloc (.cells #[.slice none 0 0] 26)) (B := w.heap.size + 1) hVs (Nat.le_refl _))
    have HVS := Lib.hid hVs
    clear hVs
    generalize (w.alloc (.cells #[.slice none 0 0] 26)).alloc (.cells #[] 34) = w1 at *
    generalize w.alloc (.cells #[.slice none 0 0] 26) = V at *
    refine (spec_frame w1).mono ?_
    rintro e w2 ⟨a2, c2, rfl, ho2, bl2⟩
    obtain ⟨g2, c2', e2⟩ := own_row ho2 (by omega)
    simp only [Value.slice.injEq, true_and] at e2
    obtain ⟨rfl, rfl⟩ := e2
    have H1 := Lib.hid (own_below O1.out bl2)
    have HC2 := Lib.hid (hs_cells (own_hs ho2))
    have b2 := b1.trans (bl2.mono (by have := b1.size; have := HVS.out; omega))
    clear ho2 bl2 O1 b1
    go_wp2_with (at_builtin; refine wpList_append_own_at _ rfl _ _ 23 rfl (w.heap.size + 1) 34 i0 (.agg #[.int .i64 0, .int .i64 0, .int .i64 0]) 3 24 Try.underlying23 hi hz0 hz1 hz2 rfl (by decide) (.slice (some ⟨w.heap.size + 1, 0, none⟩) 0 0) 0 (flat []) rfl H1.out ⟨g2, 0, none⟩ 4 c2 (flat Geo.frame) rfl (by rw [flat_len]; rfl) HC2.out (flat_one _) (by unfold maxLen; omega) (by omega) (by have := b2.size; have := HVS.out; omega) ?_; intro v3 w3 ho3 hg3 hn3 _; have b3 : Below (w.heap.size + 1) V w3 := b2.grown hg3 (by have := b2.size; have := HVS.out; omega) (fun p hp => own_base_le H1.out hp); rw [← flat_app, Nat.zero_add] at ho3; obtain ⟨a3, c3, e3⟩ := own_slice ho3; subst e3; have HQ3 := Lib.hid ho3; clear ho3 hg3 hn3 b2 H1 HC2)
    refine (spec_sorted a3 4 c3 ([] ++ Geo.frame) w3 rfl (by omega) HAL.out (own_hs HQ3.out)).mono ?_
    rintro e w4 ⟨a4, c4, rfl, ho4, bl4⟩
    have b4 := b3.trans (bl4.mono (by have := b3.size; have := HVS.out; omega))
    have hml : (Geo.srt ([] ++ Geo.frame)).length ≤ 4 := srt_len ([] ++ Geo.frame)
    have HLO := Lib.hid (srt_ok HAL.out)
    have HMD := Lib.hid (show modL [] = if (outE (Geo.srt ([] ++ Geo.frame)) (Geo.srt ([] ++ Geo.frame)).length).length < 3 then [] else outE (Geo.srt ([] ++ Geo.frame)) (Geo.srt ([] ++ Geo.frame)).length from rfl)
    have H4 := Lib.hid ho4
    clear ho4 bl4 b3 HQ3
    generalize Geo.srt ([] ++ Geo.frame) = L at *
    obtain ⟨m, hm⟩ : ∃ m, L.length = m := ⟨_, rfl⟩
    have HM := Lib.hid hm
    rw [hm] at hml H4 HMD ⊢
    clear hm
    go_wp2
    have H5 := Lib.hid (own3_empty w4 w4.heap.size (Nat.le_refl _))
    have b5 := below_one w4 (.cells #[] 34)
    go_loopw [4, 16] (fun v i wr => ∃ k j g cp : Nat, k ≤ m ∧ i = .int .i64 k ∧ v = .slice (some ⟨g, 0, none⟩) j cp ∧ wr.ownsRow w4.heap.size 34 3 (.slice (some ⟨g, 0, none⟩) j cp) j (flat (outE L k)) ∧ Below w4.heap.size w4 wr) (fun _ i _ => m - (intOf i).toNat)
    case atStart => exact ⟨0, 0, w4.heap.size, 0, Nat.zero_le _, rfl, rfl, H5.out, b5⟩
    case round =>
      obtain ⟨k, j, g, cp, hk, rfl, rfl, hov, hbel⟩ := hrel
      have hj := (own3_view hov).1
      have hj2 := out_len L k
      rw [hj] at hj2
      have H0 := Lib.hid hov
      clear hov hj
      by_cases hlt : k < m
      · obtain ⟨⟨xa, xb, xc⟩, hx⟩ : ∃ x, L[k]? = some x := ⟨_, List.getElem?_eq_getElem (by rw [HM.out]; exact hlt)⟩
        have HON := Lib.hid (out_next L k)
        rw [atI_of hx] at HON
        obtain ⟨g', o', rfl, hcx⟩ := (own_hs H4.out) k _ hx
        obtain ⟨t1, t2, t3⟩ := hcx.to hbel
        have l1 := block_lt_of_cell t1
        simp only at t1 t2 t3 l1
        have HE := Lib.hid (fun W (h : Below w4.heap.size w4 W) => spec_edge (some ⟨g', o', none⟩) m c4 k L W HM.out (by omega) hlt HLO.out ((own_hs H4.out).below h))
        clear hx hcx
        have bX := hbel.trans ((below_one wr (.cells #[.int .i64 xa, .int .i64 xb, .int .i64 xc] 34)).mono hbel.size)
        go_wp2_with fail
        refine (HE.out _ bX).mono ?_
        rintro e w6 ⟨rfl, bl6⟩
        have b6 := bX.trans (bl6.mono bX.size)
        have r6 := (tri_new wr (.int .i64 xa) (.int .i64 xb) (.int .i64 xc) 34).to bl6
        have l6 := block_lt_of_cell r6.1
        simp only at l6
        have H6 := Lib.hid (own_below (own_below H0.out (below_one wr (.cells #[.int .i64 xa, .int .i64 xb, .int .i64 xc] 34))) bl6)
        obtain ⟨d1, d2, d3⟩ := r6
        clear t1 t2 t3 bX bl6 HE H0
        cases he : edgB L k with
        | false =>
          rw [he] at HON
          clear he
          go_wp2
          go_roundw
          case rel => exact ⟨k + 1, j, g, cp, by omega, by go_num, rfl, by rw [HON.out]; simpa using H6.out, b6⟩
          case measure => simp [intOf]; omega
        | true =>
          rw [he] at HON
          clear he
          go_wp2_with (at_builtin; refine wpList_append_lies _ rfl _ _ 23 rfl w4.heap.size 34 i0 (.agg #[.int .i64 0, .int .i64 0, .int .i64 0]) 3 24 Try.underlying23 hi hz0 hz1 hz2 rfl (by decide) (.slice (some ⟨g, 0, none⟩) j cp) j _ rfl (own_below H6.out (below_one _ _)) ⟨w6.heap.size, 0, none⟩ 1 1 [.int .i64 xa, .int .i64 xb, .int .i64 xc] rfl rfl (World.news_of_block (cs := #[.int .i64 xa, .int .i64 xb, .int .i64 xc]) (t := 34) (fr := (0, 0)) (heap_alloc_new w6 _)) (by simp [Value.oneCell']) (by omega) (by unfold maxLen; omega) (by omega) (by have := b6.size; simp; omega) _ rfl ?_; intro gg cap' w7 hown7 hgrow hat hlt7; have b7 : Below w4.heap.size w4 w7 := (Below.grown (b6.trans ((below_one _ _).mono b6.size)) hgrow (by have := b6.size; simp; omega) (fun p hp => own_base_le H6.out hp)); have H7 := Lib.hid hown7; clear hown7 hgrow hat)
          go_roundw
          case rel => exact ⟨k + 1, j + 1, gg, cap', by omega, by go_num, rfl, by rw [HON.out, flat_app]; exact H7.out, b7⟩
          case measure => simp [intOf]; omega
      · obtain rfl : k = m := by omega
        have b8 := b4.trans (hbel.mono (by have := b4.size; have := HVS.out; omega))
        have p8 : wr.cell? ⟨w.heap.size, 0, none⟩ = some (.slice none 0 0) := by rw [b8.cell (by show w.heap.size < w.heap.size + 1; omega)]; exact q2
        have g8 : wr.frozen? ⟨w.heap.size, 0, none⟩ = false := by rw [b8.frozen (by show w.heap.size < w.heap.size + 1; omega)]; exact f2
        have hov := (own3_view H0.out).1
        have bw : Below w.heap.size w wr := bV.trans (b8.mono (by omega))
        have hz4 : w.heap.size < w4.heap.size := by have := b4.size; have := HVS.out; omega
        by_cases hj3 : j < 3
        · have HR := Lib.hid (show modL [] = [] by rw [HMD.out, if_pos (by rw [hov]; exact hj3)])
          clear hov
          go_wp2
          all_goals
            rw [HR.out]
            exact bodyPost_ret (v := .agg #[.slice none 0 0]) (by simp [results, Try.results101, go_sem, p8]) rfl (MakW.of own3_none (bw.setCell (Nat.le_refl _) _))
        · have HR := Lib.hid (show modL [] = outE L k by rw [HMD.out, if_neg (by rw [hov]; exact hj3)])
          have HW := Lib.hid (MakW.of (w := w) (own_base (own_far (p := ⟨w.heap.size, 0, none⟩) H0.out hz4 (.slice (some ⟨g, 0, none⟩) j cp)) (Nat.le_of_lt hz4)) (bw.setCell (Nat.le_refl _) _))
          clear hov
          go_wp2
          rw [HR.out]
          exact bodyPost_ret (v := .agg #[.slice (some ⟨g, 0, none⟩) j cp]) (by simp [results, Try.results101, go_sem, p8]) rfl HW.out
  | some ad =>
    clear hnil
    go_enter Try.func101, Try.ntmps101
    go_wp2_with (at_builtin; refine wpList_append_own_at _ rfl _ _ 23 rfl (w.heap.size + 1) 34 i0 (.agg #[.int .i64 0, .int .i64 0, .int .i64 0]) 3 24 Try.underlying23 hi hz0 hz1 hz2 rfl (by decide) (.slice (some ⟨w.heap.size + 1, 0, none⟩) 0 0) 0 (flat []) rfl (own3_empty' _ (by simp) (by simp)) ad n cap (flat hs) rfl (by rw [flat_len, HL.out]) (hs_cells (HA.out.below (below_bx2 (below_one _ _) _))) (flat_one _) (by unfold maxLen; omega) (by omega) (by simp) ?_; intro v1 w1 ho1 hg1 hn1 _)
    have bV := below_one w (.cells #[.slice none 0 0] 26)
    have q2 : (w.alloc (.cells #[.slice none 0 0] 26)).cell? ⟨w.heap.size, 0, none⟩ = some (.slice none 0 0) := by simp
    have f2 : (w.alloc (.cells #[.slice none 0 0] 26)).frozen? ⟨w.heap.size, 0, none⟩ = false := by simp
    have hVs : (w.alloc (.cells #[.slice none 0 0] 26)).heap.size = w.heap.size + 1 := by simp
    have b1 : Below (w.heap.size + 1) (w.alloc (.cells #[.slice none 0 0] 26)) w1 := (Below.grown ((below_one (w.alloc (.cells #[.slice none 0 0] 26)) (.cells #[] 34)).mono (by simp)) hg1 (by simp) (fun p hp => by simp [Value.ownBlock] at hp; omega))
    rw [← flat_app, Nat.zero_add] at ho1
    obtain ⟨a1, c1, e1⟩ := own_slice ho1
    subst e1
    have O1 := Lib.hid (show w1.ownsRow (w.heap.size + 1) 34 3 (.slice a1 n c1) n (flat hs) from ho1)
    have HVS := Lib.hid hVs
    clear ho1 hg1 hn1 hVs
    generalize w.alloc (.cells #[.slice none 0 0] 26) = V at *
    refine (spec_frame w1).mono ?_
    rintro e w2 ⟨a2, c2, rfl, ho2, bl2⟩
    obtain ⟨g2, c2', e2⟩ := own_row ho2 (by omega)
    simp only [Value.slice.injEq, true_and] at e2
    obtain ⟨rfl, rfl⟩ := e2
    have H1 := Lib.hid (own_below O1.out bl2)
    have HC2 := Lib.hid (hs_cells (own_hs ho2))
    have b2 := b1.trans (bl2.mono (by have := b1.size; have := HVS.out; omega))
    clear ho2 bl2 O1 b1
    go_wp2_with (at_builtin; refine wpList_append_own_at _ rfl _ _ 23 rfl (w.heap.size + 1) 34 i0 (.agg #[.int .i64 0, .int .i64 0, .int .i64 0]) 3 24 Try.underlying23 hi hz0 hz1 hz2 rfl (by decide) (.slice a1 n c1) n (flat hs) rfl H1.out ⟨g2, 0, none⟩ 4 c2 (flat Geo.frame) rfl (by rw [flat_len]; rfl) HC2.out (flat_one _) (by unfold maxLen; omega) (by omega) (by have := b2.size; have := HVS.out; omega) ?_; intro v3 w3 ho3 hg3 hn3 _; have b3 : Below (w.heap.size + 1) V w3 := b2.grown hg3 (by have := b2.size; have := HVS.out; omega) (fun p hp => own_base_le H1.out hp); rw [← flat_app] at ho3; obtain ⟨a3, c3, e3⟩ := own_slice ho3; subst e3; have HQ3 := Lib.hid ho3; clear ho3 hg3 hn3 b2 H1 HC2)
    refine (spec_sorted a3 (n + 4) c3 (hs ++ Geo.frame) w3 (by rw [List.length_append, HL.out]; rfl) (by omega) HAL.out (own_hs HQ3.out)).mono ?_
    rintro e w4 ⟨a4, c4, rfl, ho4, bl4⟩
    have b4 := b3.trans (bl4.mono (by have := b3.size; have := HVS.out; omega))
    have hml := srt_len (hs ++ Geo.frame)
    rw [List.length_append, HL.out, show Geo.frame.length = 4 from rfl] at hml
    have HLO := Lib.hid (srt_ok HAL.out)
    have HMD := Lib.hid (show modL hs = if (outE (Geo.srt (hs ++ Geo.frame)) (Geo.srt (hs ++ Geo.frame)).length).length < 3 then [] else outE (Geo.srt (hs ++ Geo.frame)) (Geo.srt (hs ++ Geo.frame)).length from rfl)
    have H4 := Lib.hid ho4
    clear ho4 bl4 b3 HQ3
    generalize Geo.srt (hs ++ Geo.frame) = L at *
    obtain ⟨m, hm⟩ : ∃ m, L.length = m := ⟨_, rfl⟩
    have HM := Lib.hid hm
    rw [hm] at hml H4 HMD ⊢
    clear hm
    go_wp2
    have H5 := Lib.hid (own3_empty w4 w4.heap.size (Nat.le_refl _))
    have b5 := below_one w4 (.cells #[] 34)
    go_loopw [4, 16] (fun v i wr => ∃ k j g cp : Nat, k ≤ m ∧ i = .int .i64 k ∧ v = .slice (some ⟨g, 0, none⟩) j cp ∧ wr.ownsRow w4.heap.size 34 3 (.slice (some ⟨g, 0, none⟩) j cp) j (flat (outE L k)) ∧ Below w4.heap.size w4 wr) (fun _ i _ => m - (intOf i).toNat)
    case atStart => exact ⟨0, 0, w4.heap.size, 0, Nat.zero_le _, rfl, rfl, H5.out, b5⟩
    case round =>
      obtain ⟨k, j, g, cp, hk, rfl, rfl, hov, hbel⟩ := hrel
      have hj := (own3_view hov).1
      have hj2 := out_len L k
      rw [hj] at hj2
      have H0 := Lib.hid hov
      clear hov hj
      by_cases hlt : k < m
      · obtain ⟨⟨xa, xb, xc⟩, hx⟩ : ∃ x, L[k]? = some x := ⟨_, List.getElem?_eq_getElem (by rw [HM.out]; exact hlt)⟩
        have HON := Lib.hid (out_next L k)
        rw [atI_of hx] at HON
        obtain ⟨g', o', rfl, hcx⟩ := (own_hs H4.out) k _ hx
        obtain ⟨t1, t2, t3⟩ := hcx.to hbel
        have l1 := block_lt_of_cell t1
        simp only at t1 t2 t3 l1
        have HE := Lib.hid (fun W (h : Below w4.heap.size w4 W) => spec_edge (some ⟨g', o', none⟩) m c4 k L W HM.out (by omega) hlt HLO.out ((own_hs H4.out).below h))
        clear hx hcx
        have bX := hbel.trans ((below_one wr (.cells #[.int .i64 xa, .int .i64 xb, .int .i64 xc] 34)).mono hbel.size)
        go_wp2_with fail
        refine (HE.out _ bX).mono ?_
        rintro e w6 ⟨rfl, bl6⟩
        have b6 := bX.trans (bl6.mono bX.size)
        have r6 := (tri_new wr (.int .i64 xa) (.int .i64 xb) (.int .i64 xc) 34).to bl6
        have l6 := block_lt_of_cell r6.1
        simp only at l6
        have H6 := Lib.hid (own_below (own_below H0.out (below_one wr (.cells #[.int .i64 xa, .int .i64 xb, .int .i64 xc] 34))) bl6)
        obtain ⟨d1, d2, d3⟩ := r6
        clear t1 t2 t3 bX bl6 HE H0
        cases he : edgB L k with
        | false =>
          rw [he] at HON
          clear he
          go_wp2
          go_roundw
          case rel => exact ⟨k + 1, j, g, cp, by omega, by go_num, rfl, by rw [HON.out]; simpa using H6.out, b6⟩
          case measure => simp [intOf]; omega
        | true =>
          rw [he] at HON
          clear he
          go_wp2_with (at_builtin; refine wpList_append_lies _ rfl _ _ 23 rfl w4.heap.size 34 i0 (.agg #[.int .i64 0, .int .i64 0, .int .i64 0]) 3 24 Try.underlying23 hi hz0 hz1 hz2 rfl (by decide) (.slice (some ⟨g, 0, none⟩) j cp) j _ rfl (own_below H6.out (below_one _ _)) ⟨w6.heap.size, 0, none⟩ 1 1 [.int .i64 xa, .int .i64 xb, .int .i64 xc] rfl rfl (World.news_of_block (cs := #[.int .i64 xa, .int .i64 xb, .int .i64 xc]) (t := 34) (fr := (0, 0)) (heap_alloc_new w6 _)) (by simp [Value.oneCell']) (by omega) (by unfold maxLen; omega) (by omega) (by have := b6.size; simp; omega) _ rfl ?_; intro gg cap' w7 hown7 hgrow hat hlt7; have b7 : Below w4.heap.size w4 w7 := (Below.grown (b6.trans ((below_one _ _).mono b6.size)) hgrow (by have := b6.size; simp; omega) (fun p hp => own_base_le H6.out hp)); have H7 := Lib.hid hown7; clear hown7 hgrow hat)
          go_roundw
          case rel => exact ⟨k + 1, j + 1, gg, cap', by omega, by go_num, rfl, by rw [HON.out, flat_app]; exact H7.out, b7⟩
          case measure => simp [intOf]; omega
      · obtain rfl : k = m := by omega
        have b8 := b4.trans (hbel.mono (by have := b4.size; have := HVS.out; omega))
        have p8 : wr.cell? ⟨w.heap.size, 0, none⟩ = some (.slice none 0 0) := by rw [b8.cell (by show w.heap.size < w.heap.size + 1; omega)]; exact q2
        have g8 : wr.frozen? ⟨w.heap.size, 0, none⟩ = false := by rw [b8.frozen (by show w.heap.size < w.heap.size + 1; omega)]; exact f2
        have hov := (own3_view H0.out).1
        have bw : Below w.heap.size w wr := bV.trans (b8.mono (by omega))
        have hz4 : w.heap.size < w4.heap.size := by have := b4.size; have := HVS.out; omega
        by_cases hj3 : j < 3
        · have HR := Lib.hid (show modL hs = [] by rw [HMD.out, if_pos (by rw [hov]; exact hj3)])
          clear hov
          go_wp2
          rw [HR.out]
          exact bodyPost_ret (v := .agg #[.slice none 0 0]) (by simp [results, Try.results101, go_sem, p8]) rfl (MakW.of own3_none (bw.setCell (Nat.le_refl _) _))
        · have HR := Lib.hid (show modL hs = outE L k by rw [HMD.out, if_neg (by rw [hov]; exact hj3)])
          have HW := Lib.hid (MakW.of (w := w) (own_base (own_far (p := ⟨w.heap.size, 0, none⟩) H0.out hz4 (.slice (some ⟨g, 0, none⟩) j cp)) (Nat.le_of_lt hz4)) (bw.setCell (Nat.le_refl _) _))
          clear hov
          go_wp2
          rw [HR.out]
          exact bodyPost_ret (v := .agg #[.slice (some ⟨g, 0, none⟩) j cp]) (by simp [results, Try.results101, go_sem, p8]) rfl HW.out
end Go.Proofs.Ytobmaajfdpcfmaa
