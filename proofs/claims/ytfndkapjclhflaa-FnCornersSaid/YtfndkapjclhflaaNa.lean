/- The contracts of both InnerSpot functions over the translation. -/
import Derived.Test.YtfndkapjclhflaaWm
namespace Go.Proofs.Ytfndkapjclhflaa
open Go.RowKit
open Geo (H3)

/-- whether a column has a whole spot -/
def innP (hs : List H3) (i : Nat) : Bool := decide ((colF (-1000 + i) hs).1 ≤ (colF (-1000 + i) hs).2)
/-- the first column that has one -/
def innN (hs : List H3) : Option Nat := if rokB hs = true ∧ hs ≠ [] then (List.range 2001).find? (innP hs) else none
def innA (hs : List H3) : H3 × Bool := match innN hs with | some i => (⟨-1000 + i, (colF (-1000 + i) hs).1, 1⟩, true) | none => (⟨0, 0, 0⟩, false)
def innV (hs : List H3) : Value := .tuple #[.agg #[.int .i64 (innA hs).1.a, .int .i64 (innA hs).1.b, .int .i64 (innA hs).1.c], .bool (innA hs).2]
theorem inn_no {hs : List H3} (h : innN hs = none) : innV hs = .tuple #[.agg #[.int .i64 0, .int .i64 0, .int .i64 0], .bool false] := by unfold innV innA; rw [h]
theorem inn_nil {hs : List H3} {n : Nat} (hl : hs.length = n) (h : n = 0) : innV hs = .tuple #[.agg #[.int .i64 0, .int .i64 0, .int .i64 0], .bool false] := by
  have : hs = [] := List.eq_nil_of_length_eq_zero (by omega)
  refine inn_no ?_
  unfold innN; simp [this]
theorem inn_rok {hs : List H3} (h : rokB hs = false) : innV hs = .tuple #[.agg #[.int .i64 0, .int .i64 0, .int .i64 0], .bool false] := by
  refine inn_no ?_
  unfold innN; simp [h]
theorem inn_pos {hs : List H3} {n : Nat} (hl : hs.length = n) (h : n ≠ 0) (r : rokB hs = true) : innN hs = (List.range 2001).find? (innP hs) := by
  have : hs ≠ [] := by rintro rfl; simp at hl; omega
  unfold innN; simp [r, this]
theorem inn_miss {hs : List H3} (e : innN hs = (List.range 2001).find? (innP hs)) (m : ∀ i : Nat, i < 2001 → innP hs i = false) : innV hs = .tuple #[.agg #[.int .i64 0, .int .i64 0, .int .i64 0], .bool false] := by
  refine inn_no ?_
  rw [e, List.find?_eq_none]
  intro i hi
  rw [List.mem_range] at hi
  simp [m i hi]
theorem inn_hit {hs : List H3} {k : Nat} (e : innN hs = (List.range 2001).find? (innP hs)) (hk : k < 2001) (m : ∀ i : Nat, i < k → innP hs i = false) (p : innP hs k = true) :
    innV hs = .tuple #[.agg #[.int .i64 (-1000 + k), .int .i64 (colF (-1000 + k) hs).1, .int .i64 1], .bool true] := by
  have : innN hs = some k := by
    rw [e, List.find?_range_eq_some]
    exact ⟨p, by simpa using hk, fun j hj => by simp [m j hj]⟩
  unfold innV innA; rw [this]
theorem inn_step {hs : List H3} {k : Nat} (m : ∀ i : Nat, i < k → innP hs i = false) (p : innP hs k = false) : ∀ i : Nat, i < k + 1 → innP hs i = false := by
  intro i hi
  by_cases h : i = k
  · rw [h]; exact p
  · exact m i (by omega)
set_option maxRecDepth 100000 in
set_option maxHeartbeats 3200000 in
theorem impl_inn (a : Option Addr) (n cap : Nat) (hs : List H3) (w : World) (hl : hs.length = n) (hn : n ≤ 1048576) (h64 : ∀ h ∈ hs, In64 h) (hA : HsAt w a hs) :
    Calls Try.prog 17 #[.agg #[.slice a n cap]] w fun e w' => e = .returned (innV hs) ∧ Below w.heap.size w w' := by
  have bV := below_bx2 (below_one w (.cells #[.slice a n cap] 25)) (.cells #[.int .i64 0, .int .i64 0, .int .i64 0] 31)
  have q2 := cell_to (show (w.alloc (.cells #[.slice a n cap] 25)).cell? ⟨w.heap.size, 0, none⟩ = some (.slice a n cap) by simp) (below_one _ (.cells #[.int .i64 0, .int .i64 0, .int .i64 0] 31))
  have H0 := has3_new (w.alloc (.cells #[.slice a n cap] 25)) (.int .i64 0) (.int .i64 0) (.int .i64 0) 31
  rw [show (w.alloc (.cells #[.slice a n cap] 25)).heap.size = w.heap.size + 1 by simp] at H0
  have HV := Lib.hid (fun V => impl_void a n cap V)
  have HR := Lib.hid (fun V (h : Below w.heap.size w V) => impl_rok a n cap hs V hl hn h64 (hA.below h))
  have HC := Lib.hid (fun V x (h : Below w.heap.size w V) (r : rokB hs = true) (h1 : -1000 ≤ x) (h2 : x ≤ 1000) => impl_col a n cap hs x V hl hn h1 h2 (rok_all r) (hA.below h))
  have HL := Lib.hid hl
  clear hl hA h64 hn
  go_enter Try.func17, Try.ntmps17
  go_wp2_with fail
  generalize (w.alloc (.cells #[.slice a n cap] 25)).alloc (.cells #[.int .i64 0, .int .i64 0, .int .i64 0] 31) = V at *
  refine (HV.out _).mono ?_
  rintro e w1 ⟨rfl, bl1⟩
  have b1 := below_to bV bl1
  have q3 := cell_to q2 bl1
  have H1 := Lib.hid (has3_to bl1 H0)
  clear bl1 bV q2 H0
  by_cases h0 : n = 0
  · have HY := Lib.hid (inn_nil HL.out h0)
    subst h0
    obtain ⟨p0, p1, p2, f0, f1, f2⟩ := H1.out
    go_wp2_with fail
    refine bodyPost_ret (v := .tuple #[.agg #[.int .i64 0, .int .i64 0, .int .i64 0], .bool false]) (by simp [results, Try.results17, go_sem, p0, p1, p2]) rfl ⟨by rw [HY.out], ?_⟩
    exact below_set3 _ _ _ b1 (by omega)
  · have hb : ((n : Int) == 0) = false := eq_b (by omega)
    go_wp2_with fail
    refine (HR.out _ b1).mono ?_
    rintro e w2 ⟨rfl, bl2⟩
    have b2 := below_to b1 bl2
    have q4 := cell_to q3 bl2
    have H2 := Lib.hid (has3_to bl2 H1.out)
    clear bl2 b1 q3 H1
    cases hr : rokB hs with
    | false =>
      have HY := Lib.hid (inn_rok hr)
      clear hr
      obtain ⟨p0, p1, p2, f0, f1, f2⟩ := H2.out
      go_wp2_with fail
      refine bodyPost_ret (v := .tuple #[.agg #[.int .i64 0, .int .i64 0, .int .i64 0], .bool false]) (by simp [results, Try.results17, go_sem, p0, p1, p2]) rfl ⟨by rw [HY.out], ?_⟩
      exact below_set3 _ _ _ b2 (by omega)
    | true =>
      have HQ := Lib.hid hr
      have HY := Lib.hid (inn_pos HL.out h0 hr)
      clear hr h0
      go_wp2
      go_loopw [4] (fun x wr => ∃ k : Nat, k ≤ 2001 ∧ x = .int .i64 (-1000 + k) ∧ (∀ i : Nat, i < k → innP hs i = false) ∧ Below w2.heap.size w2 wr) (fun x _ => (1001 - intOf x).toNat)
      case atStart => exact ⟨0, by omega, rfl, fun i hi => by omega, Below.refl _ _⟩
      case round =>
        obtain ⟨k, hk, rfl, hm, hbel⟩ := hrel
        have HM := Lib.hid hm
        clear hm
        have hbw := below_to b2 hbel
        have p4 := cell_to q4 hbel
        have H3 := Lib.hid (has3_to hbel H2.out)
        by_cases hlt : k < 2001
        · have HD := Lib.hid (fun V (h : Below w.heap.size w V) => HC.out V (-1000 + k) h HQ.out (by omega) (by omega))
          obtain ⟨c1, c2, c3, c4⟩ := colF_ok (x := -1000 + k) (by omega) (by omega) (rok_all HQ.out)
          have HX := Lib.hid (show innP hs k = decide ((colF (-1000 + k) hs).1 ≤ (colF (-1000 + k) hs).2) from rfl)
          have HH := Lib.hid (fun p => inn_hit HY.out hlt HM.out p)
          generalize (colF (-1000 + (k : Int)) hs).1 = lo at *
          generalize (colF (-1000 + (k : Int)) hs).2 = hi at *
          clear HC
          by_cases hlh : lo ≤ hi
          · have HG := Lib.hid (HH.out (by rw [HX.out]; simpa using hlh))
            clear HH HX
            go_wp2_with fail
            refine (HD.out _ hbw).mono ?_
            rintro e w3 ⟨rfl, bl3⟩
            have b3 := below_to hbw bl3
            obtain ⟨p0, p1, p2, f0, f1, f2⟩ := has3_to bl3 H3.out
            go_wp2_with fail
            refine bodyPost_ret (v := .tuple #[.agg #[.int .i64 (-1000 + k), .int .i64 lo, .int .i64 1], .bool true]) (by simp [results, Try.results17, go_sem, p0, p1, p2]) rfl ⟨by rw [HG.out], ?_⟩
            exact below_set3 _ _ _ b3 (by omega)
          · have HN := Lib.hid (inn_step HM.out (by rw [HX.out]; simpa using hlh))
            clear HH HX
            go_wp2_with fail
            refine (HD.out _ hbw).mono ?_
            rintro e w3 ⟨rfl, bl3⟩
            go_wp2
            go_roundw
            case rel => exact ⟨k + 1, by omega, by go_num, HN.out, hbel.trans (bl3.mono hbel.size)⟩
            case measure => simp [intOf]; omega
        · obtain rfl : k = 2001 := by omega
          have HG := Lib.hid (inn_miss HY.out HM.out)
          obtain ⟨p0, p1, p2, f0, f1, f2⟩ := H3.out
          go_wp2_with fail
          refine bodyPost_ret (v := .tuple #[.agg #[.int .i64 0, .int .i64 0, .int .i64 0], .bool false]) (by simp [results, Try.results17, go_sem, p0, p1, p2]) rfl ⟨by rw [HG.out], ?_⟩
          exact below_set3 _ _ _ hbw (by omega)
end Go.Proofs.Ytfndkapjclhflaa
