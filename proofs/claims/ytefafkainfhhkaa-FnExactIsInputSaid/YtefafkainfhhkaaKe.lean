/- CentreInput and IsInput of the program and of the model, over the translation. -/
import Derived.Test.YtefafkainfhhkaaKd
import Derived.Test.YtefafkainfhhkaaOf
import Derived.Test.YtefafkainfhhkaaCmp3
namespace Go.Proofs.Ytefafkainfhhkaa
open Go.RowKit
open Geo (H3)

/-- the middle of a range -/
def cenN (s : Int) : Int := sgnR s 2
def cenD (s : Int) : Nat := botR s 2
def cenV (b : Bool) (s : Int) : Value := if b = true then .agg #[.int .i64 (cenN s), .int .i64 (cenD s)] else .agg #[.int .i64 0, .int .i64 0]
theorem cen_ex (b : Bool) (s : Int) : ∃ N D : Int, cenV b s = .agg #[.int .i64 N, .int .i64 D] := by
  unfold cenV; split
  · exact ⟨_, _, rfl⟩
  · exact ⟨0, 0, rfl⟩
theorem cen_has {s : Int} (h1 : -2000 ≤ s) (h2 : s ≤ 2000) : hasR s 2 = true ∧ topR s 2 ≤ 2000 ∧ botR s 2 ≤ 2 ∧ (-2000 ≤ sgnR s 2 ∧ sgnR s 2 ≤ 2000) := by
  have e := sgn_abs s 2
  have t : topR s 2 ≤ 2000 := by
    have : topR s 2 ≤ s.natAbs := by unfold topR; exact Nat.div_le_self _ _
    omega
  have b : botR s 2 ≤ 2 := by unfold botR; exact Nat.div_le_self _ _
  refine ⟨(hasR_iff s 2).2 ⟨by omega, by omega, by omega⟩, t, b, by omega⟩
theorem rm_rng {zs : List Int} {q bx cy lo hi : Int} {ps qs : List H3} (h : rmB zs q bx cy lo hi ps qs = true) : (-1000 ≤ lo ∧ lo ≤ 1000) ∧ (lo ≤ hi ∧ hi ≤ 1000) ∧ mapB zs q = true ∧ (-100 ≤ bx ∧ bx ≤ 100) ∧ (-100 ≤ cy ∧ cy ≤ 100) ∧ ps ≠ [] ∧ rokB ps = true ∧ qs ≠ [] ∧ rokB qs = true := by
  rw [rm_eq] at h
  simp only [Bool.and_eq_true, Bool.not_eq_true', decide_eq_false_iff_not] at h
  obtain ⟨⟨⟨⟨⟨⟨⟨⟨⟨h1, _⟩, h2⟩, h3⟩, h4⟩, h5⟩, h6⟩, h7⟩, h8⟩, h9⟩ := h
  exact ⟨of_inB h4, of_inB h5, h1, of_inB h2, of_inB h3, h8, h6, h9, h7⟩

set_option maxRecDepth 100000 in
set_option maxHeartbeats 1600000 in
theorem impl_cen (am : Option Addr) (nm cm : Nat) (zs : List Int) (q bx cy lo hi : Int) (an : Option Addr) (nn cn : Nat) (ps : List H3) (al : Option Addr) (nl cl : Nat) (qs : List H3) (w : World) (hA : RAt w am nm zs an nn ps al nl qs) (h64 : R64 q bx cy lo hi ps qs) (hle : nm + nn + nl ≤ 1048576) :
    Calls Try.prog 41 #[.agg #[.slice am nm cm, .int .i64 q, .int .i64 bx, .int .i64 cy, .int .i64 lo, .int .i64 hi, .slice an nn cn, .slice al nl cl]] w fun e w' => e = .returned (cenV (rmB zs q bx cy lo hi ps qs) (lo + hi)) ∧ Below w.heap.size w w' := by
  have bV := below_bx2 (below_one w (.cells #[.slice am nm cm, .int .i64 q, .int .i64 bx, .int .i64 cy, .int .i64 lo, .int .i64 hi, .slice an nn cn, .slice al nl cl] 52)) (.cells #[.int .i64 0, .int .i64 0] 27)
  have K0 := (blk_new w #[.slice am nm cm, .int .i64 q, .int .i64 bx, .int .i64 cy, .int .i64 lo, .int .i64 hi, .slice an nn cn, .slice al nl cl] 52 rfl).to (below_one _ (.cells #[.int .i64 0, .int .i64 0] 27))
  have K1 := blk_new (w.alloc (.cells #[.slice am nm cm, .int .i64 q, .int .i64 bx, .int .i64 cy, .int .i64 lo, .int .i64 hi, .slice an nn cn, .slice al nl cl] 52)) #[.int .i64 0, .int .i64 0] 27 (b := w.heap.size + 1) (by simp)
  have HR := Lib.hid (fun V b (h : Below w.heap.size w V) (hb : rmB zs q bx cy lo hi ps qs = b) => impl_room am nm cm zs q bx cy lo hi an nn cn ps al nl cl qs V b hb (hA.below h) h64 hle)
  clear hA h64
  cases hr : rmB zs q bx cy lo hi ps qs with
  | false =>
    have HB := Lib.hid (fun V (h : Below w.heap.size w V) => HR.out V false h hr)
    clear hr HR
    go_enter Try.func41, Try.ntmps41
    have k0 := K0.c8_0
    have k1 := K0.c8_1
    have k2 := K0.c8_2
    have k3 := K0.c8_3
    have k4 := K0.c8_4
    have k5 := K0.c8_5
    have k6 := K0.c8_6
    have k7 := K0.c8_7
    go_wp2_with fail
    generalize (w.alloc (.cells #[.slice am nm cm, .int .i64 q, .int .i64 bx, .int .i64 cy, .int .i64 lo, .int .i64 hi, .slice an nn cn, .slice al nl cl] 52)).alloc (.cells #[.int .i64 0, .int .i64 0] 27) = V at *
    refine (HB.out _ bV).mono ?_
    rintro e w1 ⟨rfl, bl1⟩
    have b1 := below_to bV bl1
    have L1 := K1.to bl1
    clear k0 k1 k2 k3 k4 k5 k6 k7
    have r0 := L1.cell0 (i := 0) (v := .int .i64 0) rfl
    have r1 := L1.cell0 (i := 1) (v := .int .i64 0) rfl
    have f0 := L1.free 0
    have f1 := L1.free 1
    go_wp2_with fail
    exact bodyPost_ret (v := .agg #[.int .i64 0, .int .i64 0]) (by simp [results, Try.results41, go_sem, r0, r1]) rfl ⟨by simp [cenV], (b1.setCell (p := ⟨w.heap.size + 1, 0, none⟩) (Nat.le_add_right _ _) _).setCell (p := ⟨w.heap.size + 1, 1, none⟩) (Nat.le_add_right _ _) _⟩
  | true =>
    have HB := Lib.hid (fun V (h : Below w.heap.size w V) => HR.out V true h hr)
    obtain ⟨⟨x1, x2⟩, ⟨y1, y2⟩, _⟩ := rm_rng hr
    obtain ⟨z1, z2, z3, z4, z5⟩ := cen_has (s := lo + hi) (by omega) (by omega)
    have HO := Lib.hid (fun V => impl_of (lo + hi) 2 (cenN (lo + hi)) (topR (lo + hi) 2) (cenD (lo + hi)) V (by omega) (by omega) (by omega) (by omega) z1 rfl rfl rfl)
    have w1' : IntKind.i64.wrap (lo + hi) = lo + hi := IntWalk.i64_in _ (by omega)
    have HC := Lib.hid (show cenV true (lo + hi) = .agg #[.int .i64 (cenN (lo + hi)), .int .i64 (cenD (lo + hi))] from rfl)
    clear hr HR z1 z2 z3 z4 z5 x1 x2 y1 y2
    generalize cenN (lo + hi) = N at *
    generalize cenD (lo + hi) = D at *
    go_enter Try.func41, Try.ntmps41
    have k0 := K0.c8_0
    have k1 := K0.c8_1
    have k2 := K0.c8_2
    have k3 := K0.c8_3
    have k4 := K0.c8_4
    have k5 := K0.c8_5
    have k6 := K0.c8_6
    have k7 := K0.c8_7
    go_wp2_with fail
    generalize (w.alloc (.cells #[.slice am nm cm, .int .i64 q, .int .i64 bx, .int .i64 cy, .int .i64 lo, .int .i64 hi, .slice an nn cn, .slice al nl cl] 52)).alloc (.cells #[.int .i64 0, .int .i64 0] 27) = V at *
    refine (HB.out _ bV).mono ?_
    rintro e w1 ⟨rfl, bl1⟩
    have b1 := below_to bV bl1
    have L0 := K0.to bl1
    have L1 := K1.to bl1
    clear k0 k1 k2 k3 k4 k5 k6 k7
    have k4 := L0.c8_4
    have k5 := L0.c8_5
    go_wp2_with fail
    refine (HO.out _).mono ?_
    rintro e w2 ⟨rfl, bl2⟩
    have b2 := below_to b1 bl2
    have M1 := L1.to bl2
    have r0 := M1.cell0 (i := 0) (v := .int .i64 0) rfl
    have r1 := M1.cell0 (i := 1) (v := .int .i64 0) rfl
    have f0 := M1.free 0
    have f1 := M1.free 1
    go_wp2_with fail
    exact bodyPost_ret (v := .agg #[.int .i64 N, .int .i64 D]) (by simp [results, Try.results41, go_sem, r0, r1]) rfl ⟨by rw [HC.out], (b2.setCell (p := ⟨w.heap.size + 1, 0, none⟩) (Nat.le_add_right _ _) _).setCell (p := ⟨w.heap.size + 1, 1, none⟩) (Nat.le_add_right _ _) _⟩
set_option maxRecDepth 100000 in
set_option maxHeartbeats 1600000 in
theorem spec_cen (am : Option Addr) (nm cm : Nat) (zs : List Int) (q bx cy lo hi : Int) (an : Option Addr) (nn cn : Nat) (ps : List H3) (al : Option Addr) (nl cl : Nat) (qs : List H3) (w : World) (hA : RAt w am nm zs an nn ps al nl qs) (h64 : R64 q bx cy lo hi ps qs) (hle : nm + nn + nl ≤ 1048576) (hnl : RNil am nm cm an nn cn al nl cl) :
    Calls Try.prog 40 #[.agg #[.slice am nm cm, .int .i64 q, .int .i64 bx, .int .i64 cy, .int .i64 lo, .int .i64 hi, .slice an nn cn, .slice al nl cl]] w fun e w' => e = .returned (cenV (rmB zs q bx cy lo hi ps qs) (lo + hi)) ∧ Below w.heap.size w w' := by
  have bV := below_bx2 (below_one w (.cells #[.slice am nm cm, .int .i64 q, .int .i64 bx, .int .i64 cy, .int .i64 lo, .int .i64 hi, .slice an nn cn, .slice al nl cl] 52)) (.cells #[.int .i64 0, .int .i64 0] 27)
  have K0 := (blk_new w #[.slice am nm cm, .int .i64 q, .int .i64 bx, .int .i64 cy, .int .i64 lo, .int .i64 hi, .slice an nn cn, .slice al nl cl] 52 rfl).to (below_one _ (.cells #[.int .i64 0, .int .i64 0] 27))
  have K1 := blk_new (w.alloc (.cells #[.slice am nm cm, .int .i64 q, .int .i64 bx, .int .i64 cy, .int .i64 lo, .int .i64 hi, .slice an nn cn, .slice al nl cl] 52)) #[.int .i64 0, .int .i64 0] 27 (b := w.heap.size + 1) (by simp)
  have HR := Lib.hid (fun V b (h : Below w.heap.size w V) (hb : rmB zs q bx cy lo hi ps qs = b) => spec_room am nm cm zs q bx cy lo hi an nn cn ps al nl cl qs V b hb (hA.below h) h64 hnl hle)
  clear hA h64
  cases hr : rmB zs q bx cy lo hi ps qs with
  | false =>
    have HB := Lib.hid (fun V (h : Below w.heap.size w V) => HR.out V false h hr)
    clear hr HR
    go_enter Try.func40, Try.ntmps40
    have k0 := K0.c8_0
    have k1 := K0.c8_1
    have k2 := K0.c8_2
    have k3 := K0.c8_3
    have k4 := K0.c8_4
    have k5 := K0.c8_5
    have k6 := K0.c8_6
    have k7 := K0.c8_7
    go_wp2_with fail
    generalize (w.alloc (.cells #[.slice am nm cm, .int .i64 q, .int .i64 bx, .int .i64 cy, .int .i64 lo, .int .i64 hi, .slice an nn cn, .slice al nl cl] 52)).alloc (.cells #[.int .i64 0, .int .i64 0] 27) = V at *
    refine (HB.out _ bV).mono ?_
    rintro e w1 ⟨rfl, bl1⟩
    have b1 := below_to bV bl1
    have L1 := K1.to bl1
    clear k0 k1 k2 k3 k4 k5 k6 k7
    have r0 := L1.cell0 (i := 0) (v := .int .i64 0) rfl
    have r1 := L1.cell0 (i := 1) (v := .int .i64 0) rfl
    have f0 := L1.free 0
    have f1 := L1.free 1
    go_wp2_with fail
    exact bodyPost_ret (v := .agg #[.int .i64 0, .int .i64 0]) (by simp [results, Try.results40, go_sem, r0, r1]) rfl ⟨by simp [cenV], (b1.setCell (p := ⟨w.heap.size + 1, 0, none⟩) (Nat.le_add_right _ _) _).setCell (p := ⟨w.heap.size + 1, 1, none⟩) (Nat.le_add_right _ _) _⟩
  | true =>
    have HB := Lib.hid (fun V (h : Below w.heap.size w V) => HR.out V true h hr)
    obtain ⟨⟨x1, x2⟩, ⟨y1, y2⟩, _⟩ := rm_rng hr
    obtain ⟨z1, z2, z3, z4, z5⟩ := cen_has (s := lo + hi) (by omega) (by omega)
    obtain ⟨sd1, sd2, sd3, _, _⟩ := sgn_div (n := lo + hi) (d := 2) (by omega)
    have HO := Lib.hid (fun V => spec_of (lo + hi) 2 (cenN (lo + hi)) (cenD (lo + hi)) V (by omega) (by omega) (by omega) (by omega) sd1 sd2 (by unfold cenN; omega) (by unfold cenN; omega) (by unfold cenD; omega) (by unfold cenD; omega) sd3 (okR_of _ _ z1))
    have w1' : IntKind.i64.wrap (lo + hi) = lo + hi := IntWalk.i64_in _ (by omega)
    have HC := Lib.hid (show cenV true (lo + hi) = .agg #[.int .i64 (cenN (lo + hi)), .int .i64 (cenD (lo + hi))] from rfl)
    clear hr HR z1 z2 z3 z4 z5 x1 x2 y1 y2 sd1 sd2 sd3
    generalize cenN (lo + hi) = N at *
    generalize (cenD (lo + hi) : Int) = D at *
    go_enter Try.func40, Try.ntmps40
    have k0 := K0.c8_0
    have k1 := K0.c8_1
    have k2 := K0.c8_2
    have k3 := K0.c8_3
    have k4 := K0.c8_4
    have k5 := K0.c8_5
    have k6 := K0.c8_6
    have k7 := K0.c8_7
    go_wp2_with fail
    generalize (w.alloc (.cells #[.slice am nm cm, .int .i64 q, .int .i64 bx, .int .i64 cy, .int .i64 lo, .int .i64 hi, .slice an nn cn, .slice al nl cl] 52)).alloc (.cells #[.int .i64 0, .int .i64 0] 27) = V at *
    refine (HB.out _ bV).mono ?_
    rintro e w1 ⟨rfl, bl1⟩
    have b1 := below_to bV bl1
    have L0 := K0.to bl1
    have L1 := K1.to bl1
    clear k0 k1 k2 k3 k4 k5 k6 k7
    have k4 := L0.c8_4
    have k5 := L0.c8_5
    go_wp2_with fail
    refine (HO.out _).mono ?_
    rintro e w2 ⟨rfl, bl2⟩
    have b2 := below_to b1 bl2
    have M1 := L1.to bl2
    have r0 := M1.cell0 (i := 0) (v := .int .i64 0) rfl
    have r1 := M1.cell0 (i := 1) (v := .int .i64 0) rfl
    have f0 := M1.free 0
    have f1 := M1.free 1
    go_wp2_with fail
    exact bodyPost_ret (v := .agg #[.int .i64 N, .int .i64 D]) (by simp [results, Try.results40, go_sem, r0, r1]) rfl ⟨by rw [HC.out], (b2.setCell (p := ⟨w.heap.size + 1, 0, none⟩) (Nat.le_add_right _ _) _).setCell (p := ⟨w.heap.size + 1, 1, none⟩) (Nat.le_add_right _ _) _⟩
end Go.Proofs.Ytefafkainfhhkaa
