/- The contracts of strings.Cut at the slash and of the program's ParseRatio, over the translation. -/
import Derived.Test.YtbdehelcpfkcmaaDoorRp
namespace Go.Proofs.YtbdehelcpfkcmaaDoor
open Go.RowKit

theorem cut_no0 (s : ByteArray) (w : World) (h : (47 : UInt8) ∉ s.data.toList) :
    Calls Tryd.prog 44 #[.string s, .string ⟨#[47]⟩] w fun e w' => e = .returned (.tuple #[.string s, .string ⟨#[]⟩, .bool false]) ∧ ∃ k, w' = w.drewN k := by
  have HI := Lib.hid (index_no _ h)
  clear h
  go_enter Tryd.func44, Tryd.ntmps44
  go_wp2_with fail
  refine (Tryd.stringslite_Index_one s 47 _).mono ?_
  rw [HI.out]
  rintro e w1 ⟨rfl, rfl⟩
  go_wp2_with fail
  go_ret3
  exact ⟨rfl, 0, rfl⟩
theorem cut_no (s : ByteArray) (w : World) (h : (47 : UInt8) ∉ s.data.toList) :
    Calls Tryd.prog 24 #[.string s, .string ⟨#[47]⟩] w fun e w' => e = .returned (.tuple #[.string s, .string ⟨#[]⟩, .bool false]) ∧ ∃ k, w' = w.drewN k := by
  have HI := Lib.hid h
  clear h
  go_enter Tryd.func24, Tryd.ntmps24
  go_wp2_with fail
  refine (cut_no0 s _ HI.out).mono ?_
  rintro e w1 ⟨rfl, k, rfl⟩
  go_wp2_with fail
  go_ret3
  exact ⟨rfl, k, rfl⟩

theorem ext_a {s : ByteArray} {a b : List UInt8} (h : s.data.toList = a ++ 47 :: b) : s.extract 0 a.length = str a ∧ s.extract (a.length + 1) s.size = str b ∧ s.size = a.length + 1 + b.length := by
  have hs : s.size = a.length + 1 + b.length := by
    have : s.data.toList.length = s.size := by simp
    rw [← this, h]; simp; omega
  refine ⟨?_, ?_, hs⟩
  · apply ByteArray.ext; apply Array.ext'
    rw [Lib.extract_data, h]; simp [str]
  · apply ByteArray.ext; apply Array.ext'
    rw [Lib.extract_data, h, hs]
    have : List.drop (a.length + 1) (a ++ 47 :: b) = b := by
      rw [List.drop_append]; simp
    rw [this]; simp [str]
set_option maxHeartbeats 800000 in
theorem cut_yes0 (s : ByteArray) (a b : List UInt8) (w : World) (hsz : s.size ≤ 1048576) (h : s.data.toList = a ++ 47 :: b) (ha : (47 : UInt8) ∉ a) :
    Calls Tryd.prog 44 #[.string s, .string ⟨#[47]⟩] w fun e w' => e = .returned (.tuple #[.string (str a), .string (str b), .bool true]) ∧ ∃ k, w' = w.drewN k := by
  have hi := index_yes a b ha
  rw [← h] at hi
  have HI := Lib.hid hi
  obtain ⟨e1, e2, e3⟩ := ext_a h
  rw [← e1, ← e2]
  clear h hi e1 e2 ha
  generalize a.length = i at *
  have c1 : (0 : Int) ≤ (i : Int) := by omega
  have c2 : (i : Int) ≤ (s.size : Int) := by omega
  have c3 : (i : Int) + 1 ≤ (s.size : Int) := by omega
  clear e3
  go_enter Tryd.func44, Tryd.ntmps44
  go_wp2_with fail
  refine (Tryd.stringslite_Index_one s 47 _).mono ?_
  rw [HI.out]
  rintro e w1 ⟨rfl, rfl⟩
  go_wp2_with fail
  go_quiet (fail)
  go_wp2_with fail
  go_ret3
  exact ⟨rfl, nq, rfl⟩
theorem cut_yes (s : ByteArray) (a b : List UInt8) (w : World) (hsz : s.size ≤ 1048576) (h : s.data.toList = a ++ 47 :: b) (ha : (47 : UInt8) ∉ a) :
    Calls Tryd.prog 24 #[.string s, .string ⟨#[47]⟩] w fun e w' => e = .returned (.tuple #[.string (str a), .string (str b), .bool true]) ∧ ∃ k, w' = w.drewN k := by
  have HI := Lib.hid (cut_yes0 s a b · hsz h ha)
  clear h ha
  generalize str a = x at *
  generalize str b = y at *
  go_enter Tryd.func24, Tryd.ntmps24
  go_wp2_with fail
  refine (HI.out _).mono ?_
  rintro e w1 ⟨rfl, k, rfl⟩
  go_wp2_with fail
  go_ret3
  exact ⟨rfl, k, rfl⟩
-- CUT HERE

theorem heap_blw2 {w w' : World} {g : Nat} {o : Obj} (hb : Below w.heap.size w w') (h : w.heap[g]? = some o) : w'.heap[g]? = some o := by
  rw [hb.block g (lt_of_block h)]; exact h
theorem num_one : isNum [49] 1 := ⟨by omega, by omega, by have h := itoa_pos 1; rw [dec_small 1 (by omega)] at h; exact h⟩
/-- the result's block, and what was there -/
def Kept (w w' : World) : Prop := w'.heap[w.heap.size]? = some (.cells #[.int .i64 0, .int .i64 0] 49 (0, 0)) ∧ Below w.heap.size w w'
theorem Kept.facts {w w' : World} (h : Kept w w') : w'.cell? ⟨w.heap.size, 0, none⟩ = some (.int .i64 0) ∧ w'.cell? ⟨w.heap.size, 1, none⟩ = some (.int .i64 0) ∧ w'.frozen? ⟨w.heap.size, 0, none⟩ = false ∧ w'.frozen? ⟨w.heap.size, 1, none⟩ = false ∧ w.heap.size < w'.heap.size :=
  ⟨cell_of_row _ _ 0 _ _ _ h.1, cell_of_row _ _ 1 _ _ _ h.1, frozen_of_row _ _ 0 _ _ h.1, frozen_of_row _ _ 1 _ _ h.1, lt_of_block h.1⟩
theorem Kept.start (w : World) (k : Nat) : Kept w ((w.alloc (.cells #[.int .i64 0, .int .i64 0] 49)).drewN k) := ⟨heap_alloc_new w _, below_drew (below_box _ _) _⟩
theorem Kept.next {w w1 w2 : World} (h : Kept w w1) (hb : Below w1.heap.size w1 w2) : Kept w w2 := ⟨heap_blw2 hb h.1, below_trn h.2 hb⟩
theorem Kept.box {w w1 w2 : World} {a b : Value} (h : Kept w w1) (hb : Below (w1.alloc (.cells #[a, b] 49)).heap.size (w1.alloc (.cells #[a, b] 49)) w2) : Kept w w2 ∧ w2.cell? ⟨w1.heap.size, 0, none⟩ = some a ∧ w2.cell? ⟨w1.heap.size, 1, none⟩ = some b ∧ w1.heap.size < w2.heap.size := by
  have hn := heap_blw2 hb (heap_alloc_new w1 (.cells #[a, b] 49))
  exact ⟨(h.next (below_box _ _)).next hb, cell_of_row _ _ 0 _ _ _ hn, cell_of_row _ _ 1 _ _ _ hn, lt_of_block hn⟩
/-- what the tables and sentinels must be -/
def Vars (w : World) : Prop := Lib.TabIs Tryd.prog w "internal/strconv.uint64pow10" .u64 Lib.pow10Tab ∧ (∃ tp p, w.var? Tryd.prog "strconv.ErrSyntax" = some #[.iface tp p]) ∧ ∃ tp p, w.var? Tryd.prog "strconv.ErrRange" = some #[.iface tp p]
theorem Vars.below {w w' : World} (h : Vars w) (hb : Below w.heap.size w w') : Vars w' :=
  ⟨tab_below h.1 hb, var_below (g := 1) h.2.1 hb (by kernel_rfl), var_below (g := 2) h.2.2 hb (by kernel_rfl)⟩
theorem impl_par2 (s : ByteArray) (r : Int) (b : Bool) (w : World) (hs : s.size ≤ 1048576) (hr : Answer s.data.toList r b) (hv : Vars w) :
    Calls Tryd.prog 45 #[.string s] w fun e w' => e = .returned (.tuple #[.int .i64 r, .bool b]) ∧ Below w.heap.size w w' := impl_par s r b w hs hr hv.1 hv.2.1 hv.2.2
theorem str_data (l : List UInt8) : (str l).data.toList = l := by simp [str]

set_option maxHeartbeats 1600000 in
theorem pr_a_no (s x : ByteArray) (n d : Int) (w : World) (HV : Hid (Vars w))
    (HC : Hid (∀ W, Calls Tryd.prog 24 #[.string s, .string ⟨#[47]⟩] W fun e w' => e = .returned (.tuple #[.string x, .string ⟨#[]⟩, .bool false]) ∧ ∃ k, w' = W.drewN k))
    (HP1 : Hid (∀ W, Vars W → Calls Tryd.prog 45 #[.string x] W fun e w' => e = .returned (.tuple #[.int .i64 n, .bool false]) ∧ Below W.heap.size W w'))
    (HP2 : Hid (∀ W, Vars W → Calls Tryd.prog 45 #[.string ⟨#[49]⟩] W fun e w' => e = .returned (.tuple #[.int .i64 d, .bool true]) ∧ Below W.heap.size W w')) :
    Calls Tryd.prog 25 #[.string s] w fun e w' => e = .returned (.tuple #[.agg #[.int .i64 0, .int .i64 0], .bool false]) ∧ Below w.heap.size w w' := by
  go_enter Tryd.func25, Tryd.ntmps25
  go_wp2_with fail
  refine (HC.out _).mono ?_
  rintro e w1 ⟨rfl, k, rfl⟩
  have K1 := Lib.hid (Kept.start w k)
  go_wp2_with fail
  refine (HP1.out _ (HV.out.below K1.out.2)).mono ?_
  rintro e w2 ⟨rfl, hb2⟩
  have K2 := Lib.hid (K1.out.next hb2)
  clear hb2
  go_wp2_with fail
  refine (HP2.out _ (HV.out.below K2.out.2)).mono ?_
  rintro e w3 ⟨rfl, hb3⟩
  have K3 := Lib.hid (K2.out.next hb3)
  clear hb3
  obtain ⟨c0, c1, f0, f1, hz⟩ := K3.out.facts
  go_wp2_with fail
  refine bodyPost_ret (v := .tuple #[.agg #[.int .i64 0, .int .i64 0], .bool false]) (by simp [results, Tryd.results25, go_sem, c0, c1, hz]) rfl ⟨rfl, ?_⟩
  first
    | exact ((below_bx K3.out.2 _).setCell (by simp) _).setCell (by simp) _
    | exact below_bx ((K3.out.2.setCell (by simp) _).setCell (by simp) _) _

set_option maxHeartbeats 1600000 in
theorem pr_a_eq (s x z : ByteArray) (n d : Int) (w : World) (HV : Hid (Vars w))
    (HC : Hid (∀ W, Calls Tryd.prog 24 #[.string s, .string ⟨#[47]⟩] W fun e w' => e = .returned (.tuple #[.string x, .string ⟨#[]⟩, .bool false]) ∧ ∃ k, w' = W.drewN k))
    (HP1 : Hid (∀ W, Vars W → Calls Tryd.prog 45 #[.string x] W fun e w' => e = .returned (.tuple #[.int .i64 n, .bool true]) ∧ Below W.heap.size W w'))
    (HP2 : Hid (∀ W, Vars W → Calls Tryd.prog 45 #[.string ⟨#[49]⟩] W fun e w' => e = .returned (.tuple #[.int .i64 d, .bool true]) ∧ Below W.heap.size W w')) (HF : Hid (∀ W, Lib.TabIs Tryd.prog W "internal/strconv.uint64pow10" .u64 Lib.pow10Tab → Calls Tryd.prog 28 #[.agg #[.int .i64 n, .int .i64 d]] W fun e w' => e = .returned (.string z) ∧ Below W.heap.size W w')) (hq : (z.toList == s.toList) = true) :
    Calls Tryd.prog 25 #[.string s] w fun e w' => e = .returned (.tuple #[.agg #[.int .i64 n, .int .i64 d], .bool true]) ∧ Below w.heap.size w w' := by
  go_enter Tryd.func25, Tryd.ntmps25
  go_wp2_with fail
  refine (HC.out _).mono ?_
  rintro e w1 ⟨rfl, k, rfl⟩
  have K1 := Lib.hid (Kept.start w k)
  go_wp2_with fail
  refine (HP1.out _ (HV.out.below K1.out.2)).mono ?_
  rintro e w2 ⟨rfl, hb2⟩
  have K2 := Lib.hid (K1.out.next hb2)
  clear hb2
  go_wp2_with fail
  refine (HP2.out _ (HV.out.below K2.out.2)).mono ?_
  rintro e w3 ⟨rfl, hb3⟩
  have K3 := Lib.hid (K2.out.next hb3)
  clear hb3
  obtain ⟨c0, c1, f0, f1, hz⟩ := K3.out.facts
  go_wp2_with fail
  refine (HF.out _ (HV.out.below (below_trn K3.out.2 (below_box _ _))).1).mono ?_
  rintro e w4 ⟨rfl, hb4⟩
  obtain ⟨K4, b0, b1, hz3⟩ := K3.out.box hb4
  have K4 := Lib.hid K4
  clear c0 c1 f0 f1 hb4
  obtain ⟨c0, c1, f0, f1, hz4⟩ := K4.out.facts
  go_wp2_with fail
  refine bodyPost_ret (v := .tuple #[.agg #[.int .i64 n, .int .i64 d], .bool true]) (by simp [results, Tryd.results25, go_sem, c0, c1]) rfl ⟨rfl, ?_⟩
  exact (K4.out.2.setCell (by simp) _).setCell (by simp) _

set_option maxHeartbeats 1600000 in
theorem pr_a_ne (s x z : ByteArray) (n d : Int) (w : World) (HV : Hid (Vars w))
    (HC : Hid (∀ W, Calls Tryd.prog 24 #[.string s, .string ⟨#[47]⟩] W fun e w' => e = .returned (.tuple #[.string x, .string ⟨#[]⟩, .bool false]) ∧ ∃ k, w' = W.drewN k))
    (HP1 : Hid (∀ W, Vars W → Calls Tryd.prog 45 #[.string x] W fun e w' => e = .returned (.tuple #[.int .i64 n, .bool true]) ∧ Below W.heap.size W w'))
    (HP2 : Hid (∀ W, Vars W → Calls Tryd.prog 45 #[.string ⟨#[49]⟩] W fun e w' => e = .returned (.tuple #[.int .i64 d, .bool true]) ∧ Below W.heap.size W w')) (HF : Hid (∀ W, Lib.TabIs Tryd.prog W "internal/strconv.uint64pow10" .u64 Lib.pow10Tab → Calls Tryd.prog 28 #[.agg #[.int .i64 n, .int .i64 d]] W fun e w' => e = .returned (.string z) ∧ Below W.heap.size W w')) (hq : (z.toList == s.toList) = false) :
    Calls Tryd.prog 25 #[.string s] w fun e w' => e = .returned (.tuple #[.agg #[.int .i64 0, .int .i64 0], .bool false]) ∧ Below w.heap.size w w' := by
  go_enter Tryd.func25, Tryd.ntmps25
  go_wp2_with fail
  refine (HC.out _).mono ?_
  rintro e w1 ⟨rfl, k, rfl⟩
  have K1 := Lib.hid (Kept.start w k)
  go_wp2_with fail
  refine (HP1.out _ (HV.out.below K1.out.2)).mono ?_
  rintro e w2 ⟨rfl, hb2⟩
  have K2 := Lib.hid (K1.out.next hb2)
  clear hb2
  go_wp2_with fail
  refine (HP2.out _ (HV.out.below K2.out.2)).mono ?_
  rintro e w3 ⟨rfl, hb3⟩
  have K3 := Lib.hid (K2.out.next hb3)
  clear hb3
  obtain ⟨c0, c1, f0, f1, hz⟩ := K3.out.facts
  go_wp2_with fail
  refine (HF.out _ (HV.out.below (below_trn K3.out.2 (below_box _ _))).1).mono ?_
  rintro e w4 ⟨rfl, hb4⟩
  obtain ⟨K4, b0, b1, hz3⟩ := K3.out.box hb4
  have K4 := Lib.hid K4
  clear c0 c1 f0 f1 hb4
  obtain ⟨c0, c1, f0, f1, hz4⟩ := K4.out.facts
  go_wp2_with fail
  refine bodyPost_ret (v := .tuple #[.agg #[.int .i64 0, .int .i64 0], .bool false]) (by simp [results, Tryd.results25, go_sem, c0, c1]) rfl ⟨rfl, ?_⟩
  exact (K4.out.2.setCell (by simp) _).setCell (by simp) _

set_option maxHeartbeats 1600000 in
theorem pr_b_no (s x y : ByteArray) (n d : Int) (ok2 : Bool) (w : World) (HV : Hid (Vars w))
    (HC : Hid (∀ W, Calls Tryd.prog 24 #[.string s, .string ⟨#[47]⟩] W fun e w' => e = .returned (.tuple #[.string x, .string y, .bool true]) ∧ ∃ k, w' = W.drewN k))
    (HP1 : Hid (∀ W, Vars W → Calls Tryd.prog 45 #[.string x] W fun e w' => e = .returned (.tuple #[.int .i64 n, .bool false]) ∧ Below W.heap.size W w'))
    (HP2 : Hid (∀ W, Vars W → Calls Tryd.prog 45 #[.string y] W fun e w' => e = .returned (.tuple #[.int .i64 d, .bool ok2]) ∧ Below W.heap.size W w')) :
    Calls Tryd.prog 25 #[.string s] w fun e w' => e = .returned (.tuple #[.agg #[.int .i64 0, .int .i64 0], .bool false]) ∧ Below w.heap.size w w' := by
  go_enter Tryd.func25, Tryd.ntmps25
  go_wp2_with fail
  refine (HC.out _).mono ?_
  rintro e w1 ⟨rfl, k, rfl⟩
  have K1 := Lib.hid (Kept.start w k)
  go_wp2_with fail
  refine (HP1.out _ (HV.out.below K1.out.2)).mono ?_
  rintro e w2 ⟨rfl, hb2⟩
  have K2 := Lib.hid (K1.out.next hb2)
  clear hb2
  go_wp2_with fail
  refine (HP2.out _ (HV.out.below K2.out.2)).mono ?_
  rintro e w3 ⟨rfl, hb3⟩
  have K3 := Lib.hid (K2.out.next hb3)
  clear hb3
  obtain ⟨c0, c1, f0, f1, hz⟩ := K3.out.facts
  go_wp2_with fail
  refine bodyPost_ret (v := .tuple #[.agg #[.int .i64 0, .int .i64 0], .bool false]) (by simp [results, Tryd.results25, go_sem, c0, c1, hz]) rfl ⟨rfl, ?_⟩
  first
    | exact ((below_bx K3.out.2 _).setCell (by simp) _).setCell (by simp) _
    | exact below_bx ((K3.out.2.setCell (by simp) _).setCell (by simp) _) _

set_option maxHeartbeats 1600000 in
theorem pr_b_no2 (s x y : ByteArray) (n d : Int) (w : World) (HV : Hid (Vars w))
    (HC : Hid (∀ W, Calls Tryd.prog 24 #[.string s, .string ⟨#[47]⟩] W fun e w' => e = .returned (.tuple #[.string x, .string y, .bool true]) ∧ ∃ k, w' = W.drewN k))
    (HP1 : Hid (∀ W, Vars W → Calls Tryd.prog 45 #[.string x] W fun e w' => e = .returned (.tuple #[.int .i64 n, .bool true]) ∧ Below W.heap.size W w'))
    (HP2 : Hid (∀ W, Vars W → Calls Tryd.prog 45 #[.string y] W fun e w' => e = .returned (.tuple #[.int .i64 d, .bool false]) ∧ Below W.heap.size W w')) :
    Calls Tryd.prog 25 #[.string s] w fun e w' => e = .returned (.tuple #[.agg #[.int .i64 0, .int .i64 0], .bool false]) ∧ Below w.heap.size w w' := by
  go_enter Tryd.func25, Tryd.ntmps25
  go_wp2_with fail
  refine (HC.out _).mono ?_
  rintro e w1 ⟨rfl, k, rfl⟩
  have K1 := Lib.hid (Kept.start w k)
  go_wp2_with fail
  refine (HP1.out _ (HV.out.below K1.out.2)).mono ?_
  rintro e w2 ⟨rfl, hb2⟩
  have K2 := Lib.hid (K1.out.next hb2)
  clear hb2
  go_wp2_with fail
  refine (HP2.out _ (HV.out.below K2.out.2)).mono ?_
  rintro e w3 ⟨rfl, hb3⟩
  have K3 := Lib.hid (K2.out.next hb3)
  clear hb3
  obtain ⟨c0, c1, f0, f1, hz⟩ := K3.out.facts
  go_wp2_with fail
  refine bodyPost_ret (v := .tuple #[.agg #[.int .i64 0, .int .i64 0], .bool false]) (by simp [results, Tryd.results25, go_sem, c0, c1, hz]) rfl ⟨rfl, ?_⟩
  first
    | exact ((below_bx K3.out.2 _).setCell (by simp) _).setCell (by simp) _
    | exact below_bx ((K3.out.2.setCell (by simp) _).setCell (by simp) _) _

set_option maxHeartbeats 1600000 in
theorem pr_b_eq (s x y z : ByteArray) (n d : Int) (w : World) (HV : Hid (Vars w))
    (HC : Hid (∀ W, Calls Tryd.prog 24 #[.string s, .string ⟨#[47]⟩] W fun e w' => e = .returned (.tuple #[.string x, .string y, .bool true]) ∧ ∃ k, w' = W.drewN k))
    (HP1 : Hid (∀ W, Vars W → Calls Tryd.prog 45 #[.string x] W fun e w' => e = .returned (.tuple #[.int .i64 n, .bool true]) ∧ Below W.heap.size W w'))
    (HP2 : Hid (∀ W, Vars W → Calls Tryd.prog 45 #[.string y] W fun e w' => e = .returned (.tuple #[.int .i64 d, .bool true]) ∧ Below W.heap.size W w')) (HF : Hid (∀ W, Lib.TabIs Tryd.prog W "internal/strconv.uint64pow10" .u64 Lib.pow10Tab → Calls Tryd.prog 28 #[.agg #[.int .i64 n, .int .i64 d]] W fun e w' => e = .returned (.string z) ∧ Below W.heap.size W w')) (hq : (z.toList == s.toList) = true) :
    Calls Tryd.prog 25 #[.string s] w fun e w' => e = .returned (.tuple #[.agg #[.int .i64 n, .int .i64 d], .bool true]) ∧ Below w.heap.size w w' := by
  go_enter Tryd.func25, Tryd.ntmps25
  go_wp2_with fail
  refine (HC.out _).mono ?_
  rintro e w1 ⟨rfl, k, rfl⟩
  have K1 := Lib.hid (Kept.start w k)
  go_wp2_with fail
  refine (HP1.out _ (HV.out.below K1.out.2)).mono ?_
  rintro e w2 ⟨rfl, hb2⟩
  have K2 := Lib.hid (K1.out.next hb2)
  clear hb2
  go_wp2_with fail
  refine (HP2.out _ (HV.out.below K2.out.2)).mono ?_
  rintro e w3 ⟨rfl, hb3⟩
  have K3 := Lib.hid (K2.out.next hb3)
  clear hb3
  obtain ⟨c0, c1, f0, f1, hz⟩ := K3.out.facts
  go_wp2_with fail
  refine (HF.out _ (HV.out.below (below_trn K3.out.2 (below_box _ _))).1).mono ?_
  rintro e w4 ⟨rfl, hb4⟩
  obtain ⟨K4, b0, b1, hz3⟩ := K3.out.box hb4
  have K4 := Lib.hid K4
  clear c0 c1 f0 f1 hb4
  obtain ⟨c0, c1, f0, f1, hz4⟩ := K4.out.facts
  go_wp2_with fail
  refine bodyPost_ret (v := .tuple #[.agg #[.int .i64 n, .int .i64 d], .bool true]) (by simp [results, Tryd.results25, go_sem, c0, c1]) rfl ⟨rfl, ?_⟩
  exact (K4.out.2.setCell (by simp) _).setCell (by simp) _

set_option maxHeartbeats 1600000 in
theorem pr_b_ne (s x y z : ByteArray) (n d : Int) (w : World) (HV : Hid (Vars w))
    (HC : Hid (∀ W, Calls Tryd.prog 24 #[.string s, .string ⟨#[47]⟩] W fun e w' => e = .returned (.tuple #[.string x, .string y, .bool true]) ∧ ∃ k, w' = W.drewN k))
    (HP1 : Hid (∀ W, Vars W → Calls Tryd.prog 45 #[.string x] W fun e w' => e = .returned (.tuple #[.int .i64 n, .bool true]) ∧ Below W.heap.size W w'))
    (HP2 : Hid (∀ W, Vars W → Calls Tryd.prog 45 #[.string y] W fun e w' => e = .returned (.tuple #[.int .i64 d, .bool true]) ∧ Below W.heap.size W w')) (HF : Hid (∀ W, Lib.TabIs Tryd.prog W "internal/strconv.uint64pow10" .u64 Lib.pow10Tab → Calls Tryd.prog 28 #[.agg #[.int .i64 n, .int .i64 d]] W fun e w' => e = .returned (.string z) ∧ Below W.heap.size W w')) (hq : (z.toList == s.toList) = false) :
    Calls Tryd.prog 25 #[.string s] w fun e w' => e = .returned (.tuple #[.agg #[.int .i64 0, .int .i64 0], .bool false]) ∧ Below w.heap.size w w' := by
  go_enter Tryd.func25, Tryd.ntmps25
  go_wp2_with fail
  refine (HC.out _).mono ?_
  rintro e w1 ⟨rfl, k, rfl⟩
  have K1 := Lib.hid (Kept.start w k)
  go_wp2_with fail
  refine (HP1.out _ (HV.out.below K1.out.2)).mono ?_
  rintro e w2 ⟨rfl, hb2⟩
  have K2 := Lib.hid (K1.out.next hb2)
  clear hb2
  go_wp2_with fail
  refine (HP2.out _ (HV.out.below K2.out.2)).mono ?_
  rintro e w3 ⟨rfl, hb3⟩
  have K3 := Lib.hid (K2.out.next hb3)
  clear hb3
  obtain ⟨c0, c1, f0, f1, hz⟩ := K3.out.facts
  go_wp2_with fail
  refine (HF.out _ (HV.out.below (below_trn K3.out.2 (below_box _ _))).1).mono ?_
  rintro e w4 ⟨rfl, hb4⟩
  obtain ⟨K4, b0, b1, hz3⟩ := K3.out.box hb4
  have K4 := Lib.hid K4
  clear c0 c1 f0 f1 hb4
  obtain ⟨c0, c1, f0, f1, hz4⟩ := K4.out.facts
  go_wp2_with fail
  refine bodyPost_ret (v := .tuple #[.agg #[.int .i64 0, .int .i64 0], .bool false]) (by simp [results, Tryd.results25, go_sem, c0, c1]) rfl ⟨rfl, ?_⟩
  exact (K4.out.2.setCell (by simp) _).setCell (by simp) _
end Go.Proofs.YtbdehelcpfkcmaaDoor
