/- The contracts of both RegionOk functions over the translation. -/
import Derived.Test.YthpnbhebojgpbaaLk
namespace Go.Proofs.Ythpnbhebojgpbaa
open Go.RowKit
open Geo (H3)

/-- whether half planes are those of a valid region -/
def rokB (hs : List H3) : Bool := decide (hs = []) || (okF hs && sameB hs (regE hs))
theorem rok_nil {hs : List H3} {n : Nat} (hl : hs.length = n) (h : n = 0) : rokB hs = true := by
  have : hs = [] := List.eq_nil_of_length_eq_zero (by omega)
  unfold rokB; simp [this]
theorem rok_pos {hs : List H3} {n : Nat} (hl : hs.length = n) (h : n ≠ 0) : rokB hs = (okF hs && sameB hs (regE hs)) := by
  have : hs ≠ [] := by rintro rfl; simp at hl; omega
  unfold rokB; simp [this]
set_option maxHeartbeats 1600000 in
theorem impl_rok (a : Option Addr) (n cap : Nat) (hs : List H3) (w : World) (hl : hs.length = n) (hn : n ≤ 1048576) (h64 : ∀ h ∈ hs, In64 h) (hA : HsAt w a hs) :
    Calls Try.prog 15 #[.agg #[.slice a n cap]] w fun e w' => e = .returned (.bool (rokB hs)) ∧ Below w.heap.size w w' := by
  by_cases h0 : n = 0
  · have HR := Lib.hid (rok_nil hl h0)
    subst h0
    clear hl hA h64
    go_enter Try.func15, Try.ntmps15
    go_wp2_with fail
    refine (impl_void _ _ _ _).mono ?_
    rintro e w1 ⟨rfl, bl1⟩
    go_wp2
    go_ret
    exact ⟨ret_bool HR.out.symm, below_to (below_one _ _) bl1⟩
  · have HR := Lib.hid (rok_pos hl h0)
    have HF := Lib.hid (fun V (h : Below w.heap.size w V) => impl_from a n cap hs V hl hn h64 (hA.below h))
    have HS := Lib.hid (fun V a1 c1 (h : Below w.heap.size w V) (h1 : HsAt V a1 (regE hs)) => impl_same a a1 n (regE hs).length cap c1 hs (regE hs) V hl rfl hn (hA.below h) h1)
    have hb : ((n : Int) == 0) = false := eq_b (by omega)
    clear hl hA h64 h0
    go_enter Try.func15, Try.ntmps15
    go_wp2_with fail
    refine (impl_void _ _ _ _).mono ?_
    rintro e w1 ⟨rfl, bl1⟩
    have b1 := below_to (below_one _ _) bl1
    have q1 := cell_to (show (w.alloc (.cells #[.slice a n cap] 26)).cell? ⟨w.heap.size, 0, none⟩ = some (.slice a n cap) by simp) bl1
    clear bl1
    go_wp2_with fail
    refine (HF.out _ b1).mono ?_
    rintro e w2 ⟨a2, c2, rfl, ho2, bl2⟩
    have b2 := below_to b1 bl2
    have q2 := cell_to q1 bl2
    have lq := block_lt_of_cell q2
    simp only at lq
    have H2 := Lib.hid ho2
    generalize (regE hs).length = m at *
    clear b1 q1 bl2 ho2
    cases hok : okF hs with
    | false =>
      have HR2 := Lib.hid (show rokB hs = false by rw [HR.out, hok]; rfl)
      clear hok
      go_wp2
      go_ret
      exact ⟨ret_bool HR2.out.symm, below_bx2 b2 _⟩
    | true =>
      have HR2 := Lib.hid (show rokB hs = sameB hs (regE hs) by rw [HR.out, hok]; rfl)
      clear hok
      go_wp2_with fail
      refine (HS.out _ _ _ (below_bx2 b2 _) (own_hs (own_below H2.out (below_one _ _)))).mono ?_
      rintro e w3 ⟨rfl, bl3⟩
      rw [← HR2.out]
      go_wp2
      go_ret
      exact ⟨rfl, below_to (below_bx2 b2 _) bl3⟩
set_option maxHeartbeats 1600000 in
theorem spec_rok (a : Option Addr) (n cap : Nat) (hs : List H3) (w : World) (hl : hs.length = n) (hn : n ≤ 1048576) (h64 : ∀ h ∈ hs, In64 h) (hnil : a = none → n = 0 ∧ cap = 0) (hA : HsAt w a hs) :
    Calls Try.prog 34 #[.agg #[.slice a n cap]] w fun e w' => e = .returned (.bool (rokB hs)) ∧ Below w.heap.size w w' := by
  have HF := Lib.hid (fun V (h : Below w.heap.size w V) => spec_from a n cap hs V hl hn h64 hnil (hA.below h))
  have HS := Lib.hid (fun V a1 c1 (h : Below w.heap.size w V) (h1 : HsAt V a1 (regE hs)) => spec_same a a1 n (regE hs).length cap c1 hs (regE hs) V hl rfl hn (hA.below h) h1)
  have HL := Lib.hid hl
  clear hl hA h64 hnil
  go_enter Try.func34, Try.ntmps34
  go_wp2_with fail
  refine (HF.out _ (below_one _ _)).mono ?_
  rintro e w2 ⟨a2, c2, rfl, ho2, bl2⟩
  have b2 := below_to (below_one _ _) bl2
  have q2 := cell_to (show (w.alloc (.cells #[.slice a n cap] 26)).cell? ⟨w.heap.size, 0, none⟩ = some (.slice a n cap) by simp) bl2
  have lq := block_lt_of_cell q2
  simp only at lq
  have H2 := Lib.hid ho2
  generalize (regE hs).length = m at *
  clear bl2 ho2
  by_cases h0 : n = 0
  · have HR := Lib.hid (rok_nil HL.out h0)
    subst h0
    generalize okF hs = r at *
    go_wp2
    go_ret
    exact ⟨ret_bool HR.out.symm, below_bx2 b2 _⟩
  · have HR := Lib.hid (rok_pos HL.out h0)
    have hb : ((n : Int) == 0) = false := eq_b (by omega)
    clear h0
    cases hok : okF hs with
    | false =>
      have HR2 := Lib.hid (show rokB hs = false by rw [HR.out, hok]; rfl)
      clear hok
      go_wp2
      go_ret
      exact ⟨ret_bool HR2.out.symm, below_bx2 b2 _⟩
    | true =>
      have HR2 := Lib.hid (show rokB hs = sameB hs (regE hs) by rw [HR.out, hok]; rfl)
      clear hok
      go_wp2_with fail
      refine (HS.out _ _ _ (below_bx2 b2 _) (own_hs (own_below H2.out (below_one _ _)))).mono ?_
      rintro e w3 ⟨rfl, bl3⟩
      rw [← HR2.out]
      go_wp2
      go_ret
      exact ⟨rfl, below_to (below_bx2 b2 _) bl3⟩
set_option maxRecDepth 100000 in
set_option maxHeartbeats 3200000 in
theorem law_rok (a : Option Addr) (n cap : Nat) (hs : List H3) (w : World) (hl : hs.length = n) (hn : n ≤ maxLen) (h64 : ∀ h ∈ hs, In64 h) (hA : HsAt w a hs) :
    Calls Try.prog 6 #[.agg #[.slice a n cap]] w fun e w' => e = .returned (.bool true) ∧ Below w.heap.size w w' := by
  by_cases hle : (n : Int) ≤ 1048576
  · have HT := Lib.hid (fun V (h : Below w.heap.size w V) => to_region2 a n cap hs V hl (by omega) (hA.below h))
    have HE := Lib.hid (fun V a1 a2 c1 c2 (h1 : HsAt V a1 hs) (h2 : HsAt V a2 hs) => eq_region a1 a2 n c1 c2 hs V hl (by omega) h1 h2)
    have HZ := Lib.hid (fun V => sz_region a n cap V hn 1048576 (by omega) (by omega) (1048576 - n) (by rw [if_pos hle]))
    have HS := Lib.hid (fun V a1 c1 (h0 : a1 = none → n = 0 ∧ c1 = 0) (h1 : HsAt V a1 hs) => spec_rok a1 n c1 hs V hl (by omega) h64 h0 h1)
    have HI := Lib.hid (fun V a1 c1 (h1 : HsAt V a1 hs) => impl_rok a1 n c1 hs V hl (by omega) h64 h1)
    generalize rokB hs = r at *
    clear hn hA hl h64
    go_enter Try.func6, Try.ntmps6
    go_wp2_with fail
    refine (HZ.out _).mono ?_
    rintro e w1 ⟨rfl, bl1⟩
    have q1 := cell_to (show (w.alloc (.cells #[.slice a n cap] 50)).cell? ⟨w.heap.size, 0, none⟩ = some (.slice a n cap) by simp) bl1
    have b1 := below_to (below_one _ _) bl1
    clear bl1
    go_wp2_with fail
    refine (HT.out _ b1).mono ?_
    rintro e w2 ⟨ao2, cp2, rfl, ho2, bl2⟩
    have b2 := below_to b1 bl2
    have q2 := cell_to q1 bl2
    have N2 := Lib.hid (own_nil ho2)
    have A2 := Lib.hid (own_hs ho2)
    clear ho2 bl2 b1 q1
    go_wp2_with fail
    refine (HS.out _ _ _ N2.out A2.out).mono ?_
    rintro e w3 ⟨rfl, bl3⟩
    have b3 := below_to b2 bl3
    have q3 := cell_to q2 bl3
    clear bl3 b2 q2 N2 A2
    go_wp2_with fail
    refine (HT.out _ b3).mono ?_
    rintro e w4 ⟨ao4, cp4, rfl, ho4, bl4⟩
    have b4 := below_to b3 bl4
    have q4 := cell_to q3 bl4
    have H4 := Lib.hid ho4
    clear ho4 bl4 b3 q3
    go_wp2_with fail
    refine (HI.out _ _ _ (own_hs (own_below H4.out (below_one _ _)))).mono ?_
    rintro e w5 ⟨rfl, bl5⟩
    have b5 := below_to (below_bx2 b4 _) bl5
    have q5 := cell_to (cell_to q4 (below_one _ (.cells #[.slice ao4 n cp4] 26))) bl5
    have x5 := cell_to (show (w4.alloc (.cells #[.slice ao4 n cp4] 26)).cell? ⟨w4.heap.size, 0, none⟩ = some (.slice ao4 n cp4) by simp) bl5
    have H5 := Lib.hid (own_below (own_below H4.out (below_one _ (.cells #[.slice ao4 n cp4] 26))) bl5)
    clear bl5
    go_wp2
    go_region_held3 (fun w' => w'.cell? ⟨w4.heap.size, 0, none⟩ = some (.slice ao4 n cp4) ∧ w'.cell? ⟨w.heap.size, 0, none⟩ = some (.slice a n cap))
      ((refine twoc x5 q5 ?_; repeat (first | exact Below.refl _ _ | refine below_drw ?_ | refine below_to ?_ (by assumption))))
      (first | (go_at_call 35; (with_reducible refine (HT.out _ ?_).mono ?_); (focus (repeat (first | exact b5 | refine below_drw ?_ | refine below_to ?_ (by assumption)))); rintro e w6 ⟨ao6, cp6, rfl, ho6, bl6⟩) | (go_at_call 30; (with_reducible refine (HE.out _ _ _ _ _ ?_ ?_).mono ?_); (focus ((refine (own_hs H5.out).below ?_); repeat (first | exact Below.refl _ _ | refine below_drw ?_ | refine below_to ?_ (by assumption)))); (focus (exact own_hs ho6)); rintro e w7 ⟨rfl, bl7⟩))
    go_wp2
    go_ret
    exact ⟨rfl, below_to (below_to (below_drw b5) bl6) bl7⟩
  · have HZ := Lib.hid (fun V => sz_region a n cap V hn 1048576 (by omega) (by omega) (-1) (by rw [if_neg hle]))
    clear hn hA hl hle h64
    go_enter Try.func6, Try.ntmps6
    go_wp2_with fail
    refine (HZ.out _).mono ?_
    rintro e w1 ⟨rfl, bl1⟩
    go_wp2
    go_ret
    exact ⟨rfl, below_to (below_one _ _) bl1⟩
end Go.Proofs.Ythpnbhebojgpbaa
