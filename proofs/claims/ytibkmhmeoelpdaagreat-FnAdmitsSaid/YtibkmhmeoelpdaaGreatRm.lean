/- The contracts of both RegionOk functions over the translation. The contracts of both HasSpot functions over the translation, and the walk of their law. -/
import Derived.Test.YtibkmhmeoelpdaaGreatSk
namespace Go.Proofs.YtibkmhmeoelpdaaGreat
open Go.RowKit
open Geo (H3)

/-- whether half planes are those of a valid region -/
def rokB (hs : List H3) : Bool := decide (hs = []) || (okF hs && sameB hs (regE hs))
theorem rok_nil {hs : List H3} {n : Nat} (hl : hs.length = n) (h : n = 0) : rokB hs = true := by
  have : hs = [] := List.eq_nil_of_length_eq_zero (by omega)
  unfold rokB; simp [this]
theorem rok_pos {hs : List H3} {n : Nat} (hl : hs.length = n) (h : n ≠ 0) : rokB hs = (okF hs && sameB hs (regE hs)) := by
  have : hs ≠ [] := by rintro rfl; simp at hl; omega
  unfold rokB; simp [this]
set_option maxHeartbeats 1600000 in
theorem impl_rok (a : Option Addr) (n cap : Nat) (hs : List H3) (w : World) (hl : hs.length = n) (hn : n ≤ 1048576) (h64 : ∀ h ∈ hs, In64 h) (hA : HsAt w a hs) :
    Calls Tryz.prog 63 #[.agg #[.slice a n cap]] w fun e w' => e = .returned (.bool (rokB hs)) ∧ Below w.heap.size w w' := by
  by_cases h0 : n = 0
  · have HR := Lib.hid (rok_nil hl h0)
    subst h0
    clear hl hA h64
    go_enter Tryz.func63, Tryz.ntmps63
    go_wp2_with fail
    refine (impl_void _ _ _ _).mono ?_
    rintro e w1 ⟨rfl, bl1⟩
    go_wp2
    go_ret
    exact ⟨ret_bool HR.out.symm, below_to (below_one _ _) bl1⟩
  · have HR := Lib.hid (rok_pos hl h0)
    have HF := Lib.hid (fun V (h : Below w.heap.size w V) => impl_from a n cap hs V hl hn h64 (hA.below h))
    have HS := Lib.hid (fun V a1 c1 (h : Below w.heap.size w V) (h1 : HsAt V a1 (regE hs)) => impl_rsame a a1 n (regE hs).length cap c1 hs (regE hs) V hl rfl hn (hA.below h) h1)
    have hb : ((n : Int) == 0) = false := eq_b (by omega)
    clear hl hA h64 h0
    go_enter Tryz.func63, Tryz.ntmps63
    go_wp2_with fail
    refine (impl_void _ _ _ _).mono ?_
    rintro e w1 ⟨rfl, bl1⟩
    have b1 := below_to (below_one _ _) bl1
    have q1 := cell_to (show (w.alloc (.cells #[.slice a n cap] 40)).cell? ⟨w.heap.size, 0, none⟩ = some (.slice a n cap) by simp) bl1
    clear bl1
    go_wp2_with fail
    refine (HF.out _ b1).mono ?_
    rintro e w2 ⟨a2, c2, rfl, ho2, bl2⟩
    have b2 := below_to b1 bl2
    have q2 := cell_to q1 bl2
    have lq := block_lt_of_cell q2
    simp only at lq
    have H2 := Lib.hid ho2
    generalize (regE hs).length = m at *
    clear b1 q1 bl2 ho2
    cases hok : okF hs with
    | false =>
      have HR2 := Lib.hid (show rokB hs = false by rw [HR.out, hok]; rfl)
      clear hok
      go_wp2
      go_ret
      exact ⟨ret_bool HR2.out.symm, below_bx2 b2 _⟩
    | true =>
      have HR2 := Lib.hid (show rokB hs = sameB hs (regE hs) by rw [HR.out, hok]; rfl)
      clear hok
      go_wp2_with fail
      refine (HS.out _ _ _ (below_bx2 b2 _) (own_hs (own_below H2.out (below_one _ _)))).mono ?_
      rintro e w3 ⟨rfl, bl3⟩
      rw [← HR2.out]
      go_wp2
      go_ret
      exact ⟨rfl, below_to (below_bx2 b2 _) bl3⟩
set_option maxHeartbeats 1600000 in
theorem spec_rok (a : Option Addr) (n cap : Nat) (hs : List H3) (w : World) (hl : hs.length = n) (hn : n ≤ 1048576) (h64 : ∀ h ∈ hs, In64 h) (hnil : a = none → n = 0 ∧ cap = 0) (hA : HsAt w a hs) :
    Calls Tryz.prog 42 #[.agg #[.slice a n cap]] w fun e w' => e = .returned (.bool (rokB hs)) ∧ Below w.heap.size w w' := by
  have HF := Lib.hid (fun V (h : Below w.heap.size w V) => spec_from a n cap hs V hl hn h64 hnil (hA.below h))
  have HS := Lib.hid (fun V a1 c1 (h : Below w.heap.size w V) (h1 : HsAt V a1 (regE hs)) => spec_rsame a a1 n (regE hs).length cap c1 hs (regE hs) V hl rfl hn (hA.below h) h1)
  have HL := Lib.hid hl
  clear hl hA h64 hnil
  go_enter Tryz.func42, Tryz.ntmps42
  go_wp2_with fail
  refine (HF.out _ (below_one _ _)).mono ?_
  rintro e w2 ⟨a2, c2, rfl, ho2, bl2⟩
  have b2 := below_to (below_one _ _) bl2
  have q2 := cell_to (show (w.alloc (.cells #[.slice a n cap] 40)).cell? ⟨w.heap.size, 0, none⟩ = some (.slice a n cap) by simp) bl2
  have lq := block_lt_of_cell q2
  simp only at lq
  have H2 := Lib.hid ho2
  generalize (regE hs).length = m at *
  clear bl2 ho2
  by_cases h0 : n = 0
  · have HR := Lib.hid (rok_nil HL.out h0)
    subst h0
    generalize okF hs = r at *
    go_wp2
    go_ret
    exact ⟨ret_bool HR.out.symm, below_bx2 b2 _⟩
  · have HR := Lib.hid (rok_pos HL.out h0)
    have hb : ((n : Int) == 0) = false := eq_b (by omega)
    clear h0
    cases hok : okF hs with
    | false =>
      have HR2 := Lib.hid (show rokB hs = false by rw [HR.out, hok]; rfl)
      clear hok
      go_wp2
      go_ret
      exact ⟨ret_bool HR2.out.symm, below_bx2 b2 _⟩
    | true =>
      have HR2 := Lib.hid (show rokB hs = sameB hs (regE hs) by rw [HR.out, hok]; rfl)
      clear hok
      go_wp2_with fail
      refine (HS.out _ _ _ (below_bx2 b2 _) (own_hs (own_below H2.out (below_one _ _)))).mono ?_
      rintro e w3 ⟨rfl, bl3⟩
      rw [← HR2.out]
      go_wp2
      go_ret
      exact ⟨rfl, below_to (below_bx2 b2 _) bl3⟩
theorem rok_all {hs : List H3} (h : rokB hs = true) : ∀ x ∈ hs, okB x = true := by
  unfold rokB at h
  rw [Bool.or_eq_true, decide_eq_true_eq, Bool.and_eq_true] at h
  rcases h with rfl | ⟨h, _⟩
  · simp
  · unfold okF at h
    simp only [Bool.and_eq_true, decide_eq_true_eq] at h
    exact List.all_eq_true.1 h.1.2
/-- whether a spot lies in a region -/
def hasB (hs : List H3) (x y d : Int) : Bool := rokB hs && decide (hs ≠ []) && hs.all (fun h => holdH h.a h.b h.c x y d)
theorem has_nil {hs : List H3} {n : Nat} (hl : hs.length = n) (h : n = 0) (x y d : Int) : hasB hs x y d = false := by
  have : hs = [] := List.eq_nil_of_length_eq_zero (by omega)
  unfold hasB; simp [this]
theorem has_rok {hs : List H3} (h : rokB hs = false) (x y d : Int) : hasB hs x y d = false := by unfold hasB; rw [h]; rfl
theorem has_pos {hs : List H3} {n : Nat} (hl : hs.length = n) (h : n ≠ 0) (r : rokB hs = true) (x y d : Int) : hasB hs x y d = hs.all (fun h => holdH h.a h.b h.c x y d) := by
  have : hs ≠ [] := by rintro rfl; simp at hl; omega
  unfold hasB; rw [r]; simp [this]
theorem hold_no {hs : List H3} {k : Nat} {z : H3} {x y d : Int} (h : hs[k]? = some z) (n : holdH z.a z.b z.c x y d = false) : hs.all (fun h => holdH h.a h.b h.c x y d) = false := by
  rw [List.all_eq_false]; exact ⟨z, List.mem_of_getElem? h, by simp [n]⟩
theorem hold_take {hs : List H3} {k : Nat} {z : H3} {x y d : Int} (h : hs[k]? = some z) (t : holdH z.a z.b z.c x y d = true) (a : (hs.take k).all (fun h => holdH h.a h.b h.c x y d) = true) : (hs.take (k + 1)).all (fun h => holdH h.a h.b h.c x y d) = true := by
  rw [List.take_add_one, h, List.all_append, a]; simp [t]
set_option maxRecDepth 100000 in
set_option maxHeartbeats 3200000 in
theorem impl_has (a : Option Addr) (n cap : Nat) (hs : List H3) (x y d : Int) (w : World) (hl : hs.length = n) (hn : n ≤ 1048576) (h64 : ∀ h ∈ hs, In64 h) (hp : In64 ⟨x, y, d⟩) (hA : HsAt w a hs) :
    Calls Tryz.prog 24 #[.agg #[.slice a n cap], .agg #[.int .i64 x, .int .i64 y, .int .i64 d]] w fun e w' => e = .returned (.bool (hasB hs x y d)) ∧ Below w.heap.size w w' := by
  obtain ⟨⟨x1, x2⟩, ⟨y1, y2⟩, d1, d2⟩ := hp
  simp only at x1 x2 y1 y2 d1 d2
  have bV := below_bx2 (below_one w (.cells #[.slice a n cap] 40)) (.cells #[.int .i64 x, .int .i64 y, .int .i64 d] 45)
  have q2 := cell_to (show (w.alloc (.cells #[.slice a n cap] 40)).cell? ⟨w.heap.size, 0, none⟩ = some (.slice a n cap) by simp) (below_one _ (.cells #[.int .i64 x, .int .i64 y, .int .i64 d] 45))
  have q3 := tri_new (w.alloc (.cells #[.slice a n cap] 40)) (.int .i64 x) (.int .i64 y) (.int .i64 d) 45
  rw [show (w.alloc (.cells #[.slice a n cap] 40)).heap.size = w.heap.size + 1 by simp] at q3
  by_cases h0 : n = 0
  · have HR := Lib.hid (has_nil hl h0 x y d)
    clear hl hA h64 hn
    subst h0
    go_enter Tryz.func24, Tryz.ntmps24
    go_wp2_with fail
    refine (impl_void _ _ _ _).mono ?_
    rintro e w1 ⟨rfl, bl1⟩
    go_wp2
    go_ret
    exact ⟨ret_bool HR.out.symm, below_to bV bl1⟩
  · have hb : ((n : Int) == 0) = false := eq_b (by omega)
    have HO := Lib.hid (fun V (h : Below w.heap.size w V) => impl_rok a n cap hs V hl hn h64 (hA.below h))
    have HL := Lib.hid hl
    have HA := Lib.hid hA
    have H6 := Lib.hid h64
    have HN0 := Lib.hid h0
    clear hl hA h64 h0
    go_enter Tryz.func24, Tryz.ntmps24
    go_wp2_with fail
    generalize (w.alloc (.cells #[.slice a n cap] 40)).alloc (.cells #[.int .i64 x, .int .i64 y, .int .i64 d] 45) = V at *
    refine (impl_void _ _ _ _).mono ?_
    rintro e w1 ⟨rfl, bl1⟩
    have p2 := cell_to q2 bl1
    have p3 := q3.to bl1
    have b1 := below_to bV bl1
    clear q2 q3 bV bl1
    go_wp2_with fail
    refine (HO.out _ b1).mono ?_
    rintro e w2 ⟨rfl, bl2⟩
    have r2 := cell_to p2 bl2
    have r3 := p3.to bl2
    have b2 := below_to b1 bl2
    clear p2 p3 b1 bl2
    cases hr : rokB hs with
    | false =>
      have HR := Lib.hid (has_rok hr x y d)
      clear hr
      go_wp2
      go_ret
      exact ⟨ret_bool HR.out.symm, b2⟩
    | true =>
      have HR := Lib.hid (has_pos HL.out HN0.out hr x y d)
      clear hr
      go_wp2
      go_loopw [17] (fun i wr => ∃ k : Nat, k ≤ n ∧ i = .int .i64 k ∧ (hs.take k).all (fun h => holdH h.a h.b h.c x y d) = true ∧ Below w2.heap.size w2 wr) (fun i _ => n - (intOf i).toNat)
      case atStart => exact ⟨0, Nat.zero_le _, rfl, by simp, Below.refl _ _⟩
      case round =>
        obtain ⟨k, hk, rfl, ht, hbel⟩ := hrel
        have HT := Lib.hid ht
        have hbw := below_to b2 hbel
        clear ht
        by_cases hlt : k < n
        · obtain ⟨⟨za, zb, zc⟩, hz⟩ : ∃ z, hs[k]? = some z := ⟨_, List.getElem?_eq_getElem (by rw [HL.out]; exact hlt)⟩
          obtain ⟨g, o, rfl, hc⟩ := HA.out k _ hz
          obtain ⟨t1, t2, t3⟩ := hc.to hbw
          obtain ⟨s1, s2, s3⟩ := r3.to hbel
          obtain ⟨⟨a1, a2⟩, ⟨c1, c2⟩, e1, e2⟩ := H6.out _ (List.mem_of_getElem? hz)
          have l1 := block_lt_of_cell t1
          have l2 := block_lt_of_cell s1
          simp only at t1 t2 t3 a1 a2 c1 c2 e1 e2 l1 l2
          have HX := Lib.hid hz
          have HH := Lib.hid (fun W => impl_hold za zb zc x y d W a1 a2 c1 c2 e1 e2 x1 x2 y1 y2 d1 d2)
          clear hz hc a1 a2 c1 c2 e1 e2
          cases hho : holdH za zb zc x y d with
          | true =>
            rw [hho] at HH
            have HY := Lib.hid (hold_take HX.out hho HT.out)
            clear hho
            go_wp2_with (go_at_call 67; (with_reducible refine (HH.out _).mono ?_); rintro e w3 ⟨rfl, bl3⟩)
            go_roundw
            case rel => exact ⟨k + 1, by omega, by go_num, HY.out, hbel.trans ((below_to (below_one _ _) bl3).mono hbel.size)⟩
            case measure => simp [intOf]; omega
          | false =>
            rw [hho] at HH
            have HY := Lib.hid (show hasB hs x y d = false by rw [HR.out]; exact hold_no HX.out hho)
            clear hho
            go_wp2_with (go_at_call 67; (with_reducible refine (HH.out _).mono ?_); rintro e w3 ⟨rfl, bl3⟩)
            go_ret
            exact ⟨ret_bool HY.out.symm, below_to (below_bx2 hbw _) bl3⟩
        · obtain rfl : k = n := by omega
          have HY := Lib.hid (show hasB hs x y d = true by
            rw [HR.out]; have := HT.out; rwa [List.take_of_length_le (by rw [HL.out]; omega)] at this)
          go_wp2
          go_ret
          exact ⟨ret_bool HY.out.symm, hbw⟩
end Go.Proofs.YtibkmhmeoelpdaaGreat
