/- The contracts of the model's l05Fit and RegionFrom over the translation. -/
import Derived.Test.YtobmaajfdpcfmaaSe
namespace Go.Proofs.Ytobmaajfdpcfmaa
open Go.RowKit
open Geo (H3)

set_option maxHeartbeats 1600000 in
theorem spec_fit (a : Option Addr) (n cap : Nat) (hs : List H3) (w : World) (hl : hs.length = n) (hn : n ≤ 40) (hok : hs.all okB = true) (hnil : a = none → n = 0 ∧ cap = 0) (hA : HsAt w a hs) :
    Calls Try.prog 137 #[.slice a n cap] w (FromW w hs) := by
  have HM := Lib.hid (fun W (h : Below w.heap.size w W) => spec_make a n cap hs W hl (by omega) hok hnil (hA.below h))
  have HF := Lib.hid (show okF hs = decide ((regL hs).length ≤ 40) by unfold okF; rw [hl, hok]; simp [hn])
  have HR := Lib.hid (mod_reg hok)
  clear hl hok hnil hA
  go_enter Try.func137, Try.ntmps137
  go_wp2_with fail
  refine (HM.out _ (below_one _ _)).mono ?_
  rintro e w1 ⟨a1, c1, rfl, ho1, bl1⟩
  rw [HR.out] at ho1 ⊢
  have q1 := cell_to (show (w.alloc (.cells #[.slice none 0 0] 26)).cell? ⟨w.heap.size, 0, none⟩ = some (.slice none 0 0) by simp) bl1
  have f1 : w1.frozen? ⟨w.heap.size, 0, none⟩ = false := by rw [bl1.frozen (by simp)]; simp
  have b1 := below_to (below_one _ _) bl1
  have hz : w.heap.size < w1.heap.size := by have := bl1.size; simp at this; omega
  have H1 := Lib.hid ho1
  have hB : w.heap.size < (w.alloc (.cells #[.slice none 0 0] 26)).heap.size := by simp
  clear ho1 bl1
  generalize (w.alloc (.cells #[.slice none 0 0] 26)).heap.size = B at *
  generalize hm : (regL hs).length = m at *
  by_cases h40 : m ≤ 40
  · have HO := Lib.hid (show okF hs = true by rw [HF.out]; simp [h40])
    have HW := Lib.hid (FromW.yes (w := w) HO.out (own_base (own_below (own_far (p := ⟨w.heap.size, 0, none⟩) H1.out hB (.slice a1 m c1)) (below_one _ (.cells #[.slice a1 m c1] 26))) (Nat.le_of_lt hB)) (below_bx2 (b1.setCell (Nat.le_refl _) _) _))
    clear hm
    go_wp2
    exact bodyPost_ret (v := .tuple #[.agg #[.slice a1 m c1], .bool true]) (by simp [results, Try.results137, go_sem, q1, hz]) rfl HW.out
  · have HO := Lib.hid (show okF hs = false by rw [HF.out]; simp [h40])
    clear hm
    go_wp2
    exact bodyPost_ret (v := .tuple #[.agg #[.slice none 0 0], .bool false]) (by simp [results, Try.results137, go_sem, q1, hz]) rfl (FromW.no HO.out (below_bx2 (b1.setCell (Nat.le_refl _) _) _))
set_option maxRecDepth 100000 in
set_option maxHeartbeats 4000000 in
theorem spec_from (a : Option Addr) (n cap : Nat) (hs : List H3) (w : World) (hl : hs.length = n) (hn : n ≤ 1048576) (h64 : ∀ h ∈ hs, In64 h) (hnil : a = none → n = 0 ∧ cap = 0) (hA : HsAt w a hs) :
    Calls Try.prog 121 #[.slice a n cap] w (FromW w hs) := by
  have HL := Lib.hid hl
  have HA := Lib.hid hA
  have H6 := Lib.hid h64
  have HNI := Lib.hid hnil
  clear hl hA h64 hnil
  have bV := below_one w (.cells #[.slice none 0 0] 26)
  have q2 : (w.alloc (.cells #[.slice none 0 0] 26)).cell? ⟨w.heap.size, 0, none⟩ = some (.slice none 0 0) := by simp
  have f2 : (w.alloc (.cells #[.slice none 0 0] 26)).frozen? ⟨w.heap.size, 0, none⟩ = false := by simp
  have hzV : w.heap.size < (w.alloc (.cells #[.slice none 0 0] 26)).heap.size := by simp
  by_cases h40 : n ≤ 40
  · have hd : ¬ ((40 : Int) < (n : Int)) := by omega
    go_enter Try.func121, Try.ntmps121
    go_wp2
    generalize w.alloc (.cells #[.slice none 0 0] 26) = V at *
    go_loopw [12] (fun i wr => ∃ k : Nat, k ≤ n ∧ i = .int .i64 k ∧ (hs.take k).all okB = true ∧ Below V.heap.size V wr) (fun i _ => n - (intOf i).toNat)
    case atStart => exact ⟨0, Nat.zero_le _, rfl, by simp, Below.refl _ _⟩
    case round =>
      obtain ⟨k, hk, rfl, ht, hbel⟩ := hrel
      have HT := Lib.hid ht
      have hbw := below_to bV hbel
      have p2 := cell_to q2 hbel
      have g2 : wr.frozen? ⟨w.heap.size, 0, none⟩ = false := by rw [hbel.frozen hzV]; exact f2
      have hzr : w.heap.size < wr.heap.size := by have := hbel.size; omega
      clear ht
      by_cases hlt : k < n
      · obtain ⟨⟨xa, xb, xc⟩, hx⟩ : ∃ x, hs[k]? = some x := ⟨_, List.getElem?_eq_getElem (by rw [HL.out]; exact hlt)⟩
        obtain ⟨g, o, rfl, hc⟩ := HA.out k _ hx
        obtain ⟨t1, t2, t3⟩ := hc.to hbw
        obtain ⟨⟨a1, a2⟩, ⟨b1, b2⟩, c1, c2⟩ := H6.out _ (List.mem_of_getElem? hx)
        have l1 := block_lt_of_cell t1
        simp only at t1 t2 t3 a1 a2 b1 b2 c1 c2 l1
        have HX := Lib.hid hx
        have HO := Lib.hid (fun W => spec_hok xa xb xc W a1 a2 b1 b2 c1 c2)
        clear hx hc a1 a2 b1 b2 c1 c2
        cases hok : okH xa xb xc with
        | true =>
          rw [hok] at HO
          have HY := Lib.hid (take_all HX.out hok HT.out)
          clear hok
          go_wp2_with (go_at_call 100; (with_reducible refine (HO.out _).mono ?_); rintro e w1 ⟨rfl, bl1⟩)
          go_roundw
          case rel => exact ⟨k + 1, by omega, by go_num, HY.out, hbel.trans ((below_to (below_one _ _) bl1).mono hbel.size)⟩
          case measure => simp [intOf]; omega
        | false =>
          rw [hok] at HO
          have HN := Lib.hid (show okF hs = false by unfold okF; rw [all_no HX.out hok]; simp)
          clear hok
          go_wp2_with (go_at_call 100; (with_reducible refine (HO.out _).mono ?_); rintro e w1 ⟨rfl, bl1⟩; have b1 := below_to (below_bx2 hbw (.cells #[.int .i64 xa, .int .i64 xb, .int .i64 xc] 34)) bl1; have p3 := cell_to (cell_to p2 (below_one wr (.cells #[.int .i64 xa, .int .i64 xb, .int .i64 xc] 34))) bl1; have g3 : w1.frozen? ⟨w.heap.size, 0, none⟩ = false := (by rw [bl1.frozen (by simp; omega), (below_one wr (.cells #[.int .i64 xa, .int .i64 xb, .int .i64 xc] 34)).frozen hzr]; exact g2))
          exact bodyPost_ret (v := .tuple #[.agg #[.slice none 0 0], .bool false]) (by simp [results, Try.results121, go_sem, p3]) rfl (FromW.no HN.out (b1.setCell (Nat.le_refl _) _))
      · obtain rfl : k = n := by omega
        have hall : hs.all okB = true := by have := HT.out; rwa [List.take_of_length_le (by rw [HL.out]; omega)] at this
        have HF := Lib.hid (spec_fit a k cap hs wr HL.out h40 hall HNI.out (HA.out.below hbw))
        clear hall
        go_wp2_with fail
        refine HF.out.mono ?_
        rintro e w1 ⟨a1, c1, rfl, ho1, bl1⟩
        have b1 := below_to hbw bl1
        have p3 := cell_to p2 bl1
        have g3 : w1.frozen? ⟨w.heap.size, 0, none⟩ = false := by rw [bl1.frozen hzr]; exact g2
        have HW := Lib.hid (show FromW w hs (.returned (.tuple #[.agg #[.slice a1 (regE hs).length c1], .bool (okF hs)])) (w1.setCell ⟨w.heap.size, 0, none⟩ (.slice a1 (regE hs).length c1)) from ⟨a1, c1, rfl, own_base (own_far (p := ⟨w.heap.size, 0, none⟩) ho1 hzr _) (Nat.le_of_lt hzr), b1.setCell (Nat.le_refl _) _⟩)
        clear ho1
        generalize (regE hs).length = m at *
        generalize okF hs = r at *
        go_wp2
        exact bodyPost_ret (v := .tuple #[.agg #[.slice a1 m c1], .bool r]) (by simp [results, Try.results121, go_sem, p3]) rfl HW.out
  · have hd : (40 : Int) < (n : Int) := by omega
    have HN := Lib.hid (show okF hs = false by unfold okF; rw [HL.out]; simp [h40])
    clear q2 f2 hzV
    go_enter Try.func121, Try.ntmps121
    go_wp2
    exact bodyPost_ret (v := .tuple #[.agg #[.slice none 0 0], .bool false]) (by simp [results, Try.results121, go_sem]) rfl (FromW.no HN.out bV)
end Go.Proofs.Ytobmaajfdpcfmaa
