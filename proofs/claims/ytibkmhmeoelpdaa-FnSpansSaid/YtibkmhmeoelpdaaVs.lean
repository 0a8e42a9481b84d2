/- The contracts of both IsVoid and SameRegion functions over the translation. The walk of IsVoid's law over the translation. The walk of SameRegion's law over the translation. The contracts of both FrameHalves functions and of boxHalves over the translation. -/
import Derived.Test.YtibkmhmeoelpdaaRl
namespace Go.Proofs.Ytibkmhmeoelpdaa
open Go.RowKit
open Geo (H3)

theorem spec_void (a : Option Addr) (n cap : Nat) (w : World) :
    Calls Try.prog 75 #[.agg #[.slice a n cap]] w fun e w' => e = .returned (.bool ((n : Int) == 0)) ∧ Below w.heap.size w w' := by
  go_enter Try.func75, Try.ntmps75
  go_wp2
  go_ret
  exact ⟨rfl, below_one _ _⟩
theorem impl_void (a : Option Addr) (n cap : Nat) (w : World) :
    Calls Try.prog 91 #[.agg #[.slice a n cap]] w fun e w' => e = .returned (.bool ((n : Int) == 0)) ∧ Below w.heap.size w w' := by
  go_enter Try.func91, Try.ntmps91
  go_wp2
  go_ret
  exact ⟨rfl, below_one _ _⟩
def sameB (xs ys : List H3) : Bool := decide (xs = ys)
theorem same_no {xs ys : List H3} (h : xs ≠ ys) : sameB xs ys = false := by unfold sameB; simpa using h
theorem same_len {xs ys : List H3} {n m : Nat} (h1 : xs.length = n) (h2 : ys.length = m) (h : n ≠ m) : sameB xs ys = false := same_no (by rintro rfl; omega)
theorem same_at {xs ys : List H3} {k : Nat} {x y : H3} (h1 : xs[k]? = some x) (h2 : ys[k]? = some y) (h : x ≠ y) : sameB xs ys = false := same_no (by rintro rfl; rw [h1] at h2; exact h (Option.some.inj h2))
theorem same_all {xs ys : List H3} {n : Nat} (h1 : xs.length = n) (h2 : ys.length = n) (h : xs.take n = ys.take n) : sameB xs ys = true := by
  rw [List.take_of_length_le (by omega), List.take_of_length_le (by omega)] at h
  unfold sameB; simpa using h
theorem take_next {xs ys : List H3} {k : Nat} {x : H3} (h1 : xs[k]? = some x) (h2 : ys[k]? = some x) (h : xs.take k = ys.take k) : xs.take (k + 1) = ys.take (k + 1) := by
  rw [List.take_add_one, List.take_add_one, h1, h2, h]
theorem ne_parts {xa xb xc ya yb yc : Int} (h : (⟨xa, xb, xc⟩ : H3) ≠ ⟨ya, yb, yc⟩) : xa ≠ ya ∨ (xa = ya ∧ xb ≠ yb) ∨ (xa = ya ∧ xb = yb ∧ xc ≠ yc) := by
  by_cases h1 : xa = ya
  · by_cases h2 : xb = yb
    · by_cases h3 : xc = yc
      · subst h1 h2 h3; exact absurd rfl h
      · exact .inr (.inr ⟨h1, h2, h3⟩)
    · exact .inr (.inl ⟨h1, h2⟩)
  · exact .inl h1
set_option maxHeartbeats 1600000 in
theorem equal_halves (a b : Option Addr) (n m ca cb : Nat) (xs ys : List H3) (w : World) (hl : xs.length = n) (hl2 : ys.length = m) (hn : n ≤ 1048576) (hA : HsAt w a xs) (hB : HsAt w b ys) :
    Calls Try.prog 101 #[.slice a n ca, .slice b m cb] w fun e w' => e = .returned (.bool (sameB xs ys)) ∧ ∃ q, w' = w.drewN q := by
  have HL := Lib.hid hl
  have HM := Lib.hid hl2
  have HA := Lib.hid hA
  have HB := Lib.hid hB
  clear hl hl2 hA hB
  by_cases hnm : n = m
  · subst hnm
    go_enter Try.func101, Try.ntmps101
    go_wp2
    go_loopw [13] (fun i wr => ∃ k q : Nat, k ≤ n ∧ i = .int .i64 k ∧ xs.take k = ys.take k ∧ wr = w.drewN q) (fun i _ => n - (intOf i).toNat)
    case atStart => exact ⟨0, 0, Nat.zero_le _, rfl, by simp, rfl⟩
    case round =>
      obtain ⟨k, q, hk, rfl, ht, rfl⟩ := hrel
      have HT := Lib.hid ht
      clear ht
      by_cases hlt : k < n
      · obtain ⟨⟨xa, xb, xc⟩, hx⟩ : ∃ x, xs[k]? = some x := ⟨_, List.getElem?_eq_getElem (by rw [HL.out]; exact hlt)⟩
        obtain ⟨⟨ya, yb, yc⟩, hy⟩ : ∃ x, ys[k]? = some x := ⟨_, List.getElem?_eq_getElem (by rw [HM.out]; exact hlt)⟩
        obtain ⟨g, o, rfl, t1, t2, t3⟩ := HA.out k _ hx
        obtain ⟨g2, o2, rfl, s1, s2, s3⟩ := HB.out k _ hy
        simp only at t1 t2 t3 s1 s2 s3
        have HX := Lib.hid hx
        have HY := Lib.hid hy
        clear hx hy
        by_cases he : (⟨xa, xb, xc⟩ : H3) = ⟨ya, yb, yc⟩
        · obtain ⟨rfl, rfl, rfl⟩ : xa = ya ∧ xb = yb ∧ xc = yc := by simpa using he
          clear he
          go_wp2
          go_quiet (fail)
          go_wp2
          go_roundw
          case rel => exact ⟨k + 1, _, by omega, by go_num, take_next HX.out HY.out HT.out, rfl⟩
          case measure => simp [intOf]; omega
        · have HN := Lib.hid (same_at HX.out HY.out he)
          rcases ne_parts he with h1 | ⟨rfl, h1⟩ | ⟨rfl, rfl, h1⟩
          all_goals
            have hb := eq_b h1
            clear he h1
            go_wp2
            go_quiet (fail)
            go_wp2
            go_ret
            exact ⟨ret_bool HN.out.symm, _, drewN_drewN _ _ _⟩
      · have hkn : k = n := by omega
        subst hkn
        have HN := Lib.hid (same_all HL.out HM.out HT.out)
        go_wp2
        go_ret
        exact ⟨ret_bool HN.out.symm, _, rfl⟩
  · have HN := Lib.hid (same_len HL.out HM.out hnm)
    go_enter Try.func101, Try.ntmps101
    go_wp2
    go_ret
    exact ⟨ret_bool HN.out.symm, 0, rfl⟩
set_option maxHeartbeats 1600000 in
theorem impl_rsame (a b : Option Addr) (n m ca cb : Nat) (xs ys : List H3) (w : World) (hl : xs.length = n) (hl2 : ys.length = m) (hn : n ≤ 1048576) (hA : HsAt w a xs) (hB : HsAt w b ys) :
    Calls Try.prog 96 #[.agg #[.slice a n ca], .agg #[.slice b m cb]] w fun e w' => e = .returned (.bool (sameB xs ys)) ∧ Below w.heap.size w w' := by
  have H := Lib.hid (fun V (h : Below w.heap.size w V) => equal_halves a b n m ca cb xs ys V hl hl2 hn (hA.below h) (hB.below h))
  clear hl hl2 hA hB
  generalize sameB xs ys = r at *
  go_enter Try.func96, Try.ntmps96
  go_wp2_with fail
  refine (H.out _ (below_bx2 (below_one _ _) _)).mono ?_
  rintro e w1 ⟨rfl, q, rfl⟩
  go_wp2
  go_ret
  exact ⟨rfl, below_drew (below_bx2 (below_one _ _) _) q⟩
set_option maxHeartbeats 1600000 in
theorem spec_rsame (a b : Option Addr) (n m ca cb : Nat) (xs ys : List H3) (w : World) (hl : xs.length = n) (hl2 : ys.length = m) (hn : n ≤ 1048576) (hA : HsAt w a xs) (hB : HsAt w b ys) :
    Calls Try.prog 87 #[.agg #[.slice a n ca], .agg #[.slice b m cb]] w fun e w' => e = .returned (.bool (sameB xs ys)) ∧ Below w.heap.size w w' := by
  have HL := Lib.hid hl
  have HM := Lib.hid hl2
  have HA := Lib.hid hA
  have HB := Lib.hid hB
  clear hl hl2 hA hB
  by_cases hnm : n = m
  · subst hnm
    go_enter Try.func87, Try.ntmps87
    go_wp2
    have hw : Below w.heap.size w ((w.alloc (.cells #[.slice a n ca] 56)).alloc (.cells #[.slice b n cb] 56)) := below_bx2 (below_one _ _) _
    have q0 : ((w.alloc (.cells #[.slice a n ca] 56)).alloc (.cells #[.slice b n cb] 56)).cell? ⟨w.heap.size + 1, 0, none⟩ = some (.slice b n cb) := by simp
    have hz : w.heap.size + 1 < ((w.alloc (.cells #[.slice a n ca] 56)).alloc (.cells #[.slice b n cb] 56)).heap.size := by simp
    generalize (w.alloc (.cells #[.slice a n ca] 56)).alloc (.cells #[.slice b n cb] 56) = V at *
    go_loopw [17] (fun i wr => ∃ k : Nat, k ≤ n ∧ i = .int .i64 k ∧ xs.take k = ys.take k ∧ Below V.heap.size V wr) (fun i _ => n - (intOf i).toNat)
    case atStart => exact ⟨0, Nat.zero_le _, rfl, by simp, Below.refl _ _⟩
    case round =>
      obtain ⟨k, hk, rfl, ht, hbel⟩ := hrel
      have HT := Lib.hid ht
      have hbw := below_to hw hbel
      have q1 : wr.cell? ⟨w.heap.size + 1, 0, none⟩ = some (.slice b n cb) := by rw [hbel.cell hz]; exact q0
      have hz1 := hbel.size
      clear ht q0
      by_cases hlt : k < n
      · obtain ⟨⟨xa, xb, xc⟩, hx⟩ : ∃ x, xs[k]? = some x := ⟨_, List.getElem?_eq_getElem (by rw [HL.out]; exact hlt)⟩
        obtain ⟨⟨ya, yb, yc⟩, hy⟩ : ∃ x, ys[k]? = some x := ⟨_, List.getElem?_eq_getElem (by rw [HM.out]; exact hlt)⟩
        obtain ⟨g, o, rfl, hc⟩ := HA.out k _ hx
        obtain ⟨g2, o2, rfl, hc2⟩ := HB.out k _ hy
        have l1 := block_lt_of_cell (hc.to hbw).1
        have l2 := block_lt_of_cell (hc2.to hbw).1
        obtain ⟨t1, t2, t3⟩ := hc.to hbw
        obtain ⟨s1, s2, s3⟩ := hc2.to hbw
        simp only at t1 t2 t3 s1 s2 s3 l1 l2
        have HX := Lib.hid hx
        have HY := Lib.hid hy
        clear hx hy hc hc2
        by_cases he : (⟨xa, xb, xc⟩ : H3) = ⟨ya, yb, yc⟩
        · obtain ⟨rfl, rfl, rfl⟩ : xa = ya ∧ xb = yb ∧ xc = yc := by simpa using he
          clear he
          have hz2 : w.heap.size + 1 < wr.heap.size := by omega
          go_wp2
          go_quiet (fail)
          go_wp2
          go_roundw
          case rel => exact ⟨k + 1, by omega, by go_num, take_next HX.out HY.out HT.out, below_drew (below_bx2 hbel _) _⟩
          case measure => simp [intOf]; omega
        · have HN := Lib.hid (same_at HX.out HY.out he)
          have hz2 : w.heap.size + 1 < wr.heap.size := by omega
          rcases ne_parts he with h1 | ⟨rfl, h1⟩ | ⟨rfl, rfl, h1⟩
          all_goals
            have hb := eq_b h1
            clear he h1
            go_wp2
            go_quiet (fail)
            go_wp2
            go_ret
            exact ⟨ret_bool HN.out.symm, below_drew (below_bx2 hbw _) _⟩
      · have hkn : k = n := by omega
        subst hkn
        have HN := Lib.hid (same_all HL.out HM.out HT.out)
        go_wp2
        go_ret
        exact ⟨ret_bool HN.out.symm, hbw⟩
  · have HN := Lib.hid (same_len HL.out HM.out hnm)
    go_enter Try.func87, Try.ntmps87
    go_wp2
    go_ret
    exact ⟨ret_bool HN.out.symm, below_bx2 (below_one _ _) _⟩

/-- a region of the call's own is handed back -/
def RegW (w : World) (hs : List H3) (n : Nat) (e : Ending) (w' : World) : Prop := ∃ ao cp, e = .returned (.agg #[.slice ao n cp]) ∧ w'.ownsRow w.heap.size 60 3 (.slice ao n cp) n (flat hs) ∧ Below w.heap.size w w'
theorem own_hs {w : World} {B n cp : Nat} {e : TypeId} {ao : Option Addr} {hs : List H3} (h : w.ownsRow B e 3 (.slice ao n cp) n (flat hs)) : HsAt w ao hs := by
  obtain ⟨_, ao', cap', e, hat⟩ := own3_view h
  simp only [Value.slice.injEq, true_and] at e
  obtain ⟨rfl, rfl⟩ := e
  exact hat
theorem to_region2 (a : Option Addr) (n cap : Nat) (hs : List H3) (w : World) (hl : hs.length = n) (hn : n ≤ 1048576) (hA : HsAt w a hs) :
    Calls Try.prog 54 #[.agg #[.slice a n cap]] w (RegW w hs n) := by
  refine (to_region a n cap hs w hl hn hA).mono ?_
  rintro e w1 ⟨v, rfl, ho, bl⟩
  rw [hl] at ho
  obtain ⟨ao, cp, rfl⟩ := own_slice ho
  exact ⟨ao, cp, rfl, ho, bl⟩
theorem cell_to {V X : World} {p : Addr} {u : Value} (q : V.cell? p = some u) (hb : Below V.heap.size V X) : X.cell? p = some u := by rw [hb.cell (block_lt_of_cell q)]; exact q
theorem twoc {V X : World} {p q : Addr} {a b : Value} (h : V.cell? p = some a) (k : V.cell? q = some b) (hb : Below V.heap.size V X) : X.cell? p = some a ∧ X.cell? q = some b := ⟨cell_to h hb, cell_to k hb⟩
theorem twoc3 {V X : World} {p q r : Addr} {a b c : Value} (h : V.cell? p = some a) (k : V.cell? q = some b) (l : V.cell? r = some c) (hb : Below V.heap.size V X) : X.cell? p = some a ∧ X.cell? q = some b ∧ X.cell? r = some c := ⟨cell_to h hb, cell_to k hb, cell_to l hb⟩
theorem own3_new (w : World) (B : Nat) (e : TypeId) (hs : List H3) (n : Nat) (cs : Array Value) (hl : hs.length = n) (hc : cs = (flat hs).toArray) (hn : n ≤ maxLen) (hB : B ≤ w.heap.size) :
    (w.alloc (.cells cs e)).ownsRow B e 3 (.slice (some ⟨w.heap.size, 0, none⟩) n n) n (flat hs) := by
  subst hc
  refine ⟨by rw [flat_len, hl], .inr ⟨w.heap.size, n, (flat hs).toArray, rfl, hB, heap_alloc_new w _, Nat.le_refl _, hn, by simp [flat_len, hl], ?_⟩⟩
  rw [List.toList_toArray, List.take_of_length_le (by rw [flat_len, hl]; omega)]
/-- a slice of the call's own is handed back -/
def HalW (w : World) (hs : List H3) (n : Nat) (e : Ending) (w' : World) : Prop := ∃ ao cp, e = .returned (.slice ao n cp) ∧ w'.ownsRow w.heap.size 60 3 (.slice ao n cp) n (flat hs) ∧ Below w.heap.size w w'
theorem spec_frame (w : World) : Calls Try.prog 103 #[] w (HalW w Geo.frame 4) := by
  go_enter Try.func103, Try.ntmps103
  go_wp2
  go_ret
  exact ⟨_, _, rfl, own3_new w _ 60 Geo.frame 4 _ rfl rfl (by unfold maxLen; omega) (Nat.le_refl _), below_one _ _⟩
def boxL (x0 y0 x1 y1 : Int) : List H3 := [⟨1, 0, x1⟩, ⟨0, 1, y1⟩, ⟨-1, 0, -x0⟩, ⟨0, -1, -y0⟩]
theorem box_halves (x0 y0 x1 y1 : Int) (w : World) (hx : -1000 ≤ x0) (hx2 : x0 ≤ 1000) (hy : -1000 ≤ y0) (hy2 : y0 ≤ 1000) :
    Calls Try.prog 105 #[.int .i64 x0, .int .i64 y0, .int .i64 x1, .int .i64 y1] w (HalW w (boxL x0 y0 x1 y1) 4) := by
  go_enter Try.func105, Try.ntmps105
  go_wp2
  go_ret
  exact ⟨_, _, rfl, own3_new w _ 60 (boxL x0 y0 x1 y1) 4 _ rfl rfl (by unfold maxLen; omega) (Nat.le_refl _), below_one _ _⟩
theorem impl_frame (w : World) : Calls Try.prog 99 #[] w (HalW w Geo.frame 4) := by
  go_enter Try.func99, Try.ntmps99
  go_wp2_with fail
  refine (box_halves (-1000) (-1000) 1000 1000 w (by omega) (by omega) (by omega) (by omega)).mono ?_
  rintro e w1 ⟨ao, cp, rfl, ho, bl⟩
  have HO := Lib.hid ho
  clear ho
  go_wp2
  go_ret
  exact ⟨ao, cp, rfl, HO.out, bl⟩
end Go.Proofs.Ytibkmhmeoelpdaa
