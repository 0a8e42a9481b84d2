/- The contracts of slices.Grow (of nil) and of slices.Concat (of two rows that are not empty) at half planes, over the translation. What MeetRegions and CutRegion answer, and the contracts of the program's functions over the translation. The contracts of the model's MeetRegions over the translation. The contract of the model's MeetRegions over the translation. Marks that begin at any number, and the walk of the law of MeetRegions. -/
import Derived.Test.YtibkmhmeoelpdaaGreatWm
import Derived.Lib.AppendZerosOnto
import Derived.Lib.Walk
import Derived.Lib.SliceRun
namespace Go.Proofs.YtibkmhmeoelpdaaGreat
open Go.RowKit
open Geo (H3)

theorem zero_cells_size (z : Array Value) (k : Nat) : (Builtin.zeroCells z k).size = k * z.size := by
  unfold Builtin.zeroCells
  induction k with
  | zero => simp
  | succ k ih => simp_all [Nat.add_mul]
theorem own3_room (w : World) (B e : Nat) (cs : Array Value) (c : Nat) (hc : cs.size = c * 3) (hm : c ≤ maxLen) (hB : B ≤ w.heap.size) : (w.alloc (.cells cs e)).ownsRow B e 3 (.slice (some ⟨w.heap.size, 0, none⟩) 0 c) 0 (flat []) :=
  ⟨by simp [flat], .inr ⟨w.heap.size, c, cs, rfl, hB, heap_alloc_new w _, Nat.zero_le _, hm, hc, by simp [flat]⟩⟩
set_option maxRecDepth 100000 in
set_option maxHeartbeats 1600000 in
theorem grow_nil (n : Nat) (w : World) (h0 : 1 ≤ n) (hn : n ≤ 2097152) :
    Calls Tryz.prog 149 #[.slice none 0 0, .int .i64 n] w fun e w' => ∃ g c, e = .returned (.slice (some ⟨g, 0, none⟩) 0 c) ∧ w'.ownsRow w.heap.size 104 3 (.slice (some ⟨g, 0, none⟩) 0 c) 0 (flat []) ∧ Below w.heap.size w w' := by
  obtain ⟨i0, hi, hz0, hz1, hz2⟩ := info_parts Tryz.info34
  have h1 : ¬ ((n : Int) < 0) := by omega
  have h4 : (n : Int) > 0 := by omega
  have hold : (Builtin.firstCells i0.size 0 (.slice none 0 0)).run Tryz.prog w.drew = .ok ([] : List Value).toArray w.drew := run_firstCells_none w.drew i0.size 0 0 0
  have hrz : ∀ ty, (Builtin.append_ #[38, 3] ty #[.slice none 0 0, .int .i64 n]).run Tryz.prog w =
      .ok (.slice (some ⟨w.heap.size, 0, none⟩) (0 + n) (grownCap w (0 + n) 0 104)) (w.drew.alloc (.cells (([] : List Value).toArray ++ Builtin.zeroCells (Value.agg #[.int .i64 0, .int .i64 0, .int .i64 0]).cells n ++ Builtin.zeroCells (Value.agg #[.int .i64 0, .int .i64 0, .int .i64 0]).cells (grownCap w (0 + n) 0 104 - (0 + n))) 104)) := fun ty =>
    Lib.run_append_grow_zeros w 38 3 ty 104 i0 _ .i64 .i64 Tryz.underlying38 Tryz.underlying3 hi hz0 none 0 0 [] hold n (by omega) (by omega) (by omega) (by omega) (by rw [hz2]; omega) (growslice_fits (by omega) (by rw [hz2]; omega))
  have hGn : 0 + n ≤ grownCap w (0 + n) 0 104 := grownCap_ge w _ _ _
  have hG63 := grownCap_le_maxLen w (0 + n) 0 104 (by unfold maxLen; omega)
  generalize grownCap w (0 + n) 0 104 = G at *
  rw [Nat.zero_add] at *
  have ho := own3_room w.drew w.heap.size 104 (([] : List Value).toArray ++ Builtin.zeroCells (Value.agg #[.int .i64 0, .int .i64 0, .int .i64 0]).cells n ++ Builtin.zeroCells (Value.agg #[.int .i64 0, .int .i64 0, .int .i64 0]).cells (G - n)) G
    (by rw [Array.size_append, Array.size_append, zero_cells_size, zero_cells_size]; simp [Value.cells]; omega) hG63 (Nat.le_refl _)
  have hb : Below w.heap.size w (w.drew.alloc (.cells (([] : List Value).toArray ++ Builtin.zeroCells (Value.agg #[.int .i64 0, .int .i64 0, .int .i64 0]).cells n ++ Builtin.zeroCells (Value.agg #[.int .i64 0, .int .i64 0, .int .i64 0]).cells (G - n)) 104)) := below_bx2 (below_drw (Below.refl _ _)) _
  have HO := Lib.hid ho
  unfold maxLen at hG63
  clear hold ho
  generalize w.drew.alloc (.cells (([] : List Value).toArray ++ Builtin.zeroCells (Value.agg #[.int .i64 0, .int .i64 0, .int .i64 0]).cells n ++ Builtin.zeroCells (Value.agg #[.int .i64 0, .int .i64 0, .int .i64 0]).cells (G - n)) 104) = W at *
  go_enter Tryz.func149, Tryz.ntmps149
  go_wp2_with (at_builtin; refine Lib.wpList_append_run _ rfl _ _ _ _ rfl _ _ rfl rfl _ _ (hrz _) ?_)
  all_goals
    go_ret
    exact ⟨_, _, rfl, HO.out, hb⟩
/-- a new row of half planes is handed back -/
def CatW (w : World) (hs : List H3) (e : Ending) (w' : World) : Prop := ∃ ao cp, e = .returned (.slice ao hs.length cp) ∧ w'.ownsRow w.heap.size 104 3 (.slice ao hs.length cp) hs.length (flat hs) ∧ Below w.heap.size w w'
def preC (hs ks : List H3) (k : Nat) : List H3 := if k = 0 then [] else if k = 1 then hs else hs ++ ks
set_option maxRecDepth 100000 in
set_option maxHeartbeats 1600000 in
theorem concat_two (g0 : Nat) (a b : Option Addr) (n m ca cb c0 : Nat) (hs ks : List H3) (w : World) (hl : hs.length = n) (hk : ks.length = m) (h1 : 1 ≤ n) (h2 : 1 ≤ m) (hn : n ≤ 1048576) (hm : m ≤ 1048576) (hA : HsAt w a hs) (hB : HsAt w b ks)
    (e0 : w.cell? ⟨g0, 0, none⟩ = some (.slice a n ca)) (e1 : w.cell? ⟨g0, 1, none⟩ = some (.slice b m cb)) :
    Calls Tryz.prog 120 #[.slice (some ⟨g0, 0, none⟩) 2 c0] w (CatW w (hs ++ ks)) := by
  obtain ⟨i0, hi, hz0, hz1, hz2⟩ := info_parts Tryz.info34
  obtain ⟨x0, hx0⟩ : ∃ x, hs[0]? = some x := ⟨_, List.getElem?_eq_getElem (by omega)⟩
  obtain ⟨y0, hy0⟩ : ∃ x, ks[0]? = some x := ⟨_, List.getElem?_eq_getElem (by omega)⟩
  obtain ⟨ga, oa, rfl, _⟩ := hA 0 _ hx0
  obtain ⟨gb, ob, rfl, _⟩ := hB 0 _ hy0
  have HA := Lib.hid hA
  have HB := Lib.hid hB
  have HL := Lib.hid hl
  have HK := Lib.hid hk
  clear hx0 hy0 hA hB hl hk
  go_enter Tryz.func120, Tryz.ntmps120
  go_wp2
  go_loop [3, 11] (fun s i => ∃ k : Nat, k ≤ 2 ∧ i = .int .i64 k ∧ s = .int .i64 (if k = 0 then 0 else if k = 1 then n else n + m)) (fun _ i => 2 - (intOf i).toNat)
  case atStart => exact ⟨0, by omega, rfl, rfl⟩
  case round =>
    obtain ⟨k, hk, rfl, rfl⟩ := hrel
    rcases (by omega : k = 0 ∨ k = 1 ∨ k = 2) with rfl | rfl | rfl
    · go_wp2
      go_round
      case rel => exact ⟨1, by omega, by go_num, by go_num⟩
      case measure => simp [intOf]
    · go_wp2
      go_round
      case rel => exact ⟨2, by omega, by go_num, by go_num⟩
      case measure => simp [intOf]
    · have HG := Lib.hid (grow_nil (n + m) w (by omega) (by omega))
      go_wp2_with fail
      refine HG.out.mono ?_
      rintro e w1 ⟨g1, c1, rfl, ho1, bl1⟩
      have O1 := Lib.hid ho1
      have f0 := cell_to e0 bl1
      have f1 := cell_to e1 bl1
      clear ho1 HG
      go_wp2
      go_loopw [6, 27] (fun v i wr => ∃ (k : Nat) (ao : Option Addr) (len cp : Nat), k ≤ 2 ∧ i = .int .i64 k ∧ v = .slice ao len cp ∧ wr.ownsRow w.heap.size 104 3 (.slice ao len cp) len (flat (preC hs ks k)) ∧ Below w.heap.size w wr) (fun _ i _ => 2 - (intOf i).toNat)
      case atStart => exact ⟨0, _, 0, _, by omega, rfl, rfl, O1.out, bl1⟩
      case round =>
        obtain ⟨k, ao, len, cp, hk, rfl, rfl, hov, hbel⟩ := hrel
        have H0 := Lib.hid hov
        have hj := (own3_view hov).1
        have p0 := cell_to e0 hbel
        have p1 := cell_to e1 hbel
        clear hov
        rcases (by omega : k = 0 ∨ k = 1 ∨ k = 2) with rfl | rfl | rfl
        · obtain rfl : len = 0 := by rw [← hj]; rfl
          have HC := Lib.hid (hs_cells (HA.out.below hbel))
          clear hj
          go_wp2_with (at_builtin; refine wpList_append_own_at _ rfl _ _ 38 rfl w.heap.size 104 i0 (.agg #[.int .i64 0, .int .i64 0, .int .i64 0]) 3 24 Tryz.underlying38 hi hz0 hz1 hz2 rfl (by decide) (.slice ao 0 cp) 0 _ rfl H0.out ⟨ga, oa, none⟩ n ca (flat hs) rfl (by rw [flat_len, HL.out]) HC.out (flat_one _) (by unfold maxLen; omega) (by omega) hbel.size ?_; intro v3 w3 ho3 hg3 hn3 _; have b3 : Below w.heap.size w w3 := hbel.grown hg3 hbel.size (fun p hp => own_base_le H0.out hp); rw [Nat.zero_add] at ho3; obtain ⟨a3, c3, e3⟩ := own_slice ho3; subst e3; have HQ3 := Lib.hid ho3; clear ho3 hg3 hn3 H0 HC)
          go_roundw
          case rel => exact ⟨1, a3, _, c3, by omega, by go_num, rfl, HQ3.out, b3⟩
          case measure => simp [intOf]
        · obtain rfl : len = n := by rw [← hj]; exact HL.out
          have HC := Lib.hid (hs_cells (HB.out.below hbel))
          clear hj
          go_wp2_with (at_builtin; refine wpList_append_own_at _ rfl _ _ 38 rfl w.heap.size 104 i0 (.agg #[.int .i64 0, .int .i64 0, .int .i64 0]) 3 24 Tryz.underlying38 hi hz0 hz1 hz2 rfl (by decide) (.slice ao len cp) len _ rfl H0.out ⟨gb, ob, none⟩ m cb (flat ks) rfl (by rw [flat_len, HK.out]) HC.out (flat_one _) (by unfold maxLen; omega) (by omega) hbel.size ?_; intro v3 w3 ho3 hg3 hn3 _; have b3 : Below w.heap.size w w3 := hbel.grown hg3 hbel.size (fun p hp => own_base_le H0.out hp); obtain ⟨a3, c3, e3⟩ := own_slice ho3; subst e3; have HQ3 := Lib.hid ho3; clear ho3 hg3 hn3 H0 HC)
          go_roundw
          case rel => exact ⟨2, a3, _, c3, by omega, by go_num, rfl, by have := HQ3.out; rw [← flat_app] at this; exact this, b3⟩
          case measure => simp [intOf]
        · have hj' : (hs ++ ks).length = len := hj
          go_wp2
          go_ret
          subst hj'
          exact ⟨_, _, rfl, H0.out, hbel⟩

theorem rok_reg {hs : List H3} (h : rokB hs = true) (n : hs ≠ []) : regL hs = hs := by
  unfold rokB at h
  rw [Bool.or_eq_true, decide_eq_true_eq, Bool.and_eq_true] at h
  rcases h with h | ⟨h, k⟩
  · exact absurd h n
  · unfold sameB regE at k
    rw [if_pos h] at k
    simpa using (by simpa using k : hs = regL hs).symm
theorem rok_len {hs : List H3} (h : rokB hs = true) : hs.length ≤ 40 := by
  unfold rokB at h
  rw [Bool.or_eq_true, decide_eq_true_eq, Bool.and_eq_true] at h
  rcases h with rfl | ⟨h, _⟩
  · simp
  · unfold okF at h
    simp only [Bool.and_eq_true, decide_eq_true_eq] at h
    exact h.1.1
theorem rok_allB {hs : List H3} (h : rokB hs = true) : hs.all okB = true := List.all_eq_true.2 (rok_all h)
theorem reg_more {hs ks : List H3} (h : rokB hs = true) (n : hs ≠ []) : (regL (hs ++ ks)).length ≤ hs.length + ks.length := by
  have e : regL (hs ++ ks) = ks.foldl Geo.cutL (regL hs) := by unfold regL; rw [List.foldl_append]
  rw [e, rok_reg h n]
  exact Geo.fold_len _ _
theorem okF_more {hs ks : List H3} (h : rokB hs = true) (n : hs ≠ []) (k : ks.all okB = true) : okF (hs ++ ks) = decide (hs.length + ks.length ≤ 40) := by
  have l := reg_more (ks := ks) h n
  unfold okF
  rw [List.all_append, rok_allB h, k, List.length_append]
  by_cases q : hs.length + ks.length ≤ 40
  · have : (regL (hs ++ ks)).length ≤ 40 := by omega
    simp [q, this]
  · simp [q]
theorem in64_app {hs ks : List H3} (a : ∀ h ∈ hs, In64 h) (b : ∀ h ∈ ks, In64 h) : ∀ h ∈ hs ++ ks, In64 h := by
  intro x hx
  rcases List.mem_append.1 hx with h | h
  · exact a x h
  · exact b x h
/-- a new region and a bool are handed back -/
def AnsR (w : World) (L : List H3) (b : Bool) (e : Ending) (w' : World) : Prop := ∃ ao cp, e = .returned (.tuple #[.agg #[.slice ao L.length cp], .bool b]) ∧ w'.ownsRow w.heap.size 104 3 (.slice ao L.length cp) L.length (flat L) ∧ Below w.heap.size w w'
theorem AnsR.no {w w' : World} {L : List H3} {b c : Bool} (h : L = []) (k : b = c) (hb : Below w.heap.size w w') : AnsR w L b (.returned (.tuple #[.agg #[.slice none 0 0], .bool c])) w' := by
  subst h; subst k
  exact ⟨none, 0, rfl, own3_none, hb⟩
theorem AnsR.yes {w w' : World} {L M : List H3} {b c : Bool} {ao : Option Addr} {m cp : Nat} (h : M = L) (k : b = c) (ho : w'.ownsRow w.heap.size 104 3 (.slice ao m cp) m (flat M)) (hb : Below w.heap.size w w') : AnsR w L b (.returned (.tuple #[.agg #[.slice ao m cp], .bool c])) w' := by
  subst h; subst k
  obtain rfl := (own3_view ho).1
  exact ⟨ao, cp, rfl, ho, hb⟩
/-- whether MeetRegions answers, and with which edges -/
def metB (ps qs : List H3) : Bool := rokB ps && rokB qs && decide (ps.length + qs.length ≤ 40)
def metL (ps qs : List H3) : List H3 := if metB ps qs = true ∧ ps ≠ [] ∧ qs ≠ [] then regL (ps ++ qs) else []
theorem met_no1 {ps qs : List H3} (h : rokB ps = false) : metL ps qs = [] ∧ metB ps qs = false := by
  have : metB ps qs = false := by unfold metB; rw [h]; rfl
  exact ⟨by unfold metL; simp [this], this⟩
theorem met_no2 {ps qs : List H3} (h : rokB qs = false) : metL ps qs = [] ∧ metB ps qs = false := by
  have : metB ps qs = false := by unfold metB; rw [h]; simp
  exact ⟨by unfold metL; simp [this], this⟩
theorem met_void {ps qs : List H3} (h : rokB ps = true) (k : rokB qs = true) (n : ps = [] ∨ qs = []) : metL ps qs = [] ∧ metB ps qs = true := by
  have a := rok_len h
  have b := rok_len k
  refine ⟨?_, ?_⟩
  · unfold metL; rw [if_neg]; rintro ⟨_, h1, h2⟩; rcases n with n | n <;> contradiction
  · unfold metB; rw [h, k]
    have : ps.length + qs.length ≤ 40 := by rcases n with rfl | rfl <;> simp <;> omega
    simp [this]
theorem met_yes {ps qs : List H3} (h : rokB ps = true) (k : rokB qs = true) (n : ps ≠ []) (m : qs ≠ []) : metL ps qs = regE (ps ++ qs) ∧ metB ps qs = okF (ps ++ qs) := by
  have e := okF_more h n (rok_allB k)
  have e2 : metB ps qs = okF (ps ++ qs) := by rw [e]; unfold metB; rw [h, k]; rfl
  refine ⟨?_, e2⟩
  unfold metL regE
  rw [e2]
  by_cases q : okF (ps ++ qs) = true
  · rw [if_pos ⟨q, n, m⟩, if_pos q]
  · rw [if_neg (fun z => q z.1), if_neg q]
theorem len_ne {hs : List H3} {n : Nat} (hl : hs.length = n) (h : n ≠ 0) : hs ≠ [] := by rintro rfl; simp at hl; omega
theorem len_nil {hs : List H3} {n : Nat} (hl : hs.length = n) (h : n = 0) : hs = [] := List.eq_nil_of_length_eq_zero (by omega)
theorem box_one {U : World} {b : Nat} (h : U.heap.size = b) (v : Value) (T : TypeId) : (U.alloc (.cells #[v] T)).cell? ⟨b, 0, none⟩ = some v ∧ (U.alloc (.cells #[v] T)).frozen? ⟨b, 0, none⟩ = false := by
  subst h
  exact ⟨cell_of_row _ _ 0 _ _ _ (heap_alloc_new U _), frozen_of_row _ _ 0 _ _ (heap_alloc_new U _)⟩
theorem box_two (w : World) (a b : Value) (T : TypeId) : (w.alloc (.cells #[a, b] T)).cell? ⟨w.heap.size, 0, none⟩ = some a ∧ (w.alloc (.cells #[a, b] T)).cell? ⟨w.heap.size, 1, none⟩ = some b :=
  ⟨cell_of_row _ _ 0 _ _ _ (heap_alloc_new w _), cell_of_row _ _ 1 _ _ _ (heap_alloc_new w _)⟩
set_option maxRecDepth 100000 in
set_option maxHeartbeats 3200000 in
theorem impl_met (a b : Option Addr) (n m ca cb : Nat) (ps qs : List H3) (w : World) (hl : ps.length = n) (hk : qs.length = m) (hn : n ≤ 1048576) (hm : m ≤ 1048576) (h64 : ∀ h ∈ ps, In64 h) (k64 : ∀ h ∈ qs, In64 h) (hA : HsAt w a ps) (hB : HsAt w b qs) :
    Calls Tryz.prog 66 #[.agg #[.slice a n ca], .agg #[.slice b m cb]] w (AnsR w (metL ps qs) (metB ps qs)) := by
  have bV := below_bx2 (below_bx2 (below_one w (.cells #[.slice a n ca] 40)) (.cells #[.slice b m cb] 40)) (.cells #[.slice none 0 0] 40)
  have q0 := cell_to (show (w.alloc (.cells #[.slice a n ca] 40)).cell? ⟨w.heap.size, 0, none⟩ = some (.slice a n ca) by simp) (below_bx2 (below_one _ (.cells #[.slice b m cb] 40)) (.cells #[.slice none 0 0] 40))
  have q1 := cell_to (show ((w.alloc (.cells #[.slice a n ca] 40)).alloc (.cells #[.slice b m cb] 40)).cell? ⟨w.heap.size + 1, 0, none⟩ = some (.slice b m cb) by simp) (below_one _ (.cells #[.slice none 0 0] 40))
  obtain ⟨q2, f2⟩ := box_one (U := (w.alloc (.cells #[.slice a n ca] 40)).alloc (.cells #[.slice b m cb] 40)) (b := w.heap.size + 2) (by simp) (.slice none 0 0) 40
  have HV := Lib.hid (fun V => impl_void a n ca V)
  have HW := Lib.hid (fun V => impl_void b m cb V)
  have HR := Lib.hid (fun V (h : Below w.heap.size w V) => impl_rok a n ca ps V hl (by omega) h64 (hA.below h))
  have HS := Lib.hid (fun V (h : Below w.heap.size w V) => impl_rok b m cb qs V hk (by omega) k64 (hB.below h))
  have HA := Lib.hid hA
  have HB := Lib.hid hB
  have HL := Lib.hid hl
  have HK := Lib.hid hk
  have H64 := Lib.hid (in64_app h64 k64)
  clear hl hk hA hB h64 k64
  go_enter Tryz.func66, Tryz.ntmps66
  go_wp2_with fail
  generalize ((w.alloc (.cells #[.slice a n ca] 40)).alloc (.cells #[.slice b m cb] 40)).alloc (.cells #[.slice none 0 0] 40) = V at *
  refine (HR.out _ bV).mono ?_
  rintro e w1 ⟨rfl, bl1⟩
  have b1 := below_to bV bl1
  have q0' := cell_to q0 bl1
  have q1' := cell_to q1 bl1
  have q2' := cell_to q2 bl1
  have f2' : w1.frozen? ⟨w.heap.size + 2, 0, none⟩ = false := by rw [bl1.frozen (block_lt_of_cell q2)]; exact f2
  clear bV q0 q1 q2 f2 bl1 HR
  cases hr : rokB ps with
  | false =>
    have HN := Lib.hid (met_no1 (qs := qs) hr)
    clear hr
    go_wp2_with fail
    exact bodyPost_ret (v := .tuple #[.agg #[.slice none 0 0], .bool false]) (by simp [results, Tryz.results66, go_sem, q2']) rfl (AnsR.no HN.out.1 HN.out.2 (b1.setCell (p := ⟨w.heap.size + 2, 0, none⟩) (Nat.le_add_right _ _) _))
  | true =>
    have HP := Lib.hid hr
    clear hr
    go_wp2_with fail
    refine (HS.out _ b1).mono ?_
    rintro e w2 ⟨rfl, bl2⟩
    have b2 := below_to b1 bl2
    have p0 := cell_to q0' bl2
    have p1 := cell_to q1' bl2
    have p2 := cell_to q2' bl2
    have g2 : w2.frozen? ⟨w.heap.size + 2, 0, none⟩ = false := by rw [bl2.frozen (block_lt_of_cell q2')]; exact f2'
    clear b1 q0' q1' q2' f2' bl2 HS
    cases hr : rokB qs with
    | false =>
      have HN := Lib.hid (met_no2 (ps := ps) hr)
      clear hr
      go_wp2_with fail
      exact bodyPost_ret (v := .tuple #[.agg #[.slice none 0 0], .bool false]) (by simp [results, Tryz.results66, go_sem, p2]) rfl (AnsR.no HN.out.1 HN.out.2 (b2.setCell (p := ⟨w.heap.size + 2, 0, none⟩) (Nat.le_add_right _ _) _))
    | true =>
      have HQ := Lib.hid hr
      clear hr
      go_wp2_with fail
      refine (HV.out _).mono ?_
      rintro e w3 ⟨rfl, bl3⟩
      have b3 := below_to b2 bl3
      have q0 := cell_to p0 bl3
      have q1 := cell_to p1 bl3
      have q2 := cell_to p2 bl3
      have f2 : w3.frozen? ⟨w.heap.size + 2, 0, none⟩ = false := by rw [bl3.frozen (block_lt_of_cell p2)]; exact g2
      clear b2 p0 p1 p2 g2 bl3 HV
      by_cases h0 : n = 0
      · have HN := Lib.hid (met_void HP.out HQ.out (.inl (len_nil HL.out h0)))
        subst h0
        go_wp2_with fail
        exact bodyPost_ret (v := .tuple #[.agg #[.slice none 0 0], .bool true]) (by simp [results, Tryz.results66, go_sem, q2]) rfl (AnsR.no HN.out.1 HN.out.2 (b3.setCell (p := ⟨w.heap.size + 2, 0, none⟩) (Nat.le_add_right _ _) _))
      · have hb : ((n : Int) == 0) = false := eq_b (by omega)
        go_wp2_with fail
        refine (HW.out _).mono ?_
        rintro e w4 ⟨rfl, bl4⟩
        have b4 := below_to b3 bl4
        have p0 := cell_to q0 bl4
        have p1 := cell_to q1 bl4
        have p2 := cell_to q2 bl4
        have g2 : w4.frozen? ⟨w.heap.size + 2, 0, none⟩ = false := by rw [bl4.frozen (block_lt_of_cell q2)]; exact f2
        clear b3 q0 q1 q2 f2 bl4 HW
        by_cases h1 : m = 0
        · have HN := Lib.hid (met_void HP.out HQ.out (.inr (len_nil HK.out h1)))
          subst h1
          go_wp2_with fail
          exact bodyPost_ret (v := .tuple #[.agg #[.slice none 0 0], .bool true]) (by simp [results, Tryz.results66, go_sem, p2]) rfl (AnsR.no HN.out.1 HN.out.2 (b4.setCell (p := ⟨w.heap.size + 2, 0, none⟩) (Nat.le_add_right _ _) _))
        · have hb1 : ((m : Int) == 0) = false := eq_b (by omega)
          have HN := Lib.hid (met_yes HP.out HQ.out (len_ne HL.out h0) (len_ne HK.out h1))
          go_wp2_with fail
          have bX := below_bx2 b4 (.cells #[.slice a n ca, .slice b m cb] 38)
          have x2 := cell_to p2 (below_one w4 (.cells #[.slice a n ca, .slice b m cb] 38))
          have y2 : (w4.alloc (.cells #[.slice a n ca, .slice b m cb] 38)).frozen? ⟨w.heap.size + 2, 0, none⟩ = false := by rw [(below_one w4 (.cells #[.slice a n ca, .slice b m cb] 38)).frozen (block_lt_of_cell p2)]; exact g2
          refine (concat_two w4.heap.size a b n m ca cb 2 ps qs _ HL.out HK.out (by omega) (by omega) (by omega) (by omega) (HA.out.below bX) (HB.out.below bX) (box_two w4 _ _ 38).1 (box_two w4 _ _ 38).2).mono ?_
          rintro e w5 ⟨ac, cc, rfl, ho5, bl5⟩
          obtain ⟨N, hN⟩ : ∃ N, (ps ++ qs).length = N := ⟨_, rfl⟩
          rw [hN] at ho5 ⊢
          have HNN := Lib.hid hN
          clear hN
          have b5 := below_to bX bl5
          have q2 := cell_to x2 bl5
          have f2 : w5.frozen? ⟨w.heap.size + 2, 0, none⟩ = false := by rw [bl5.frozen (block_lt_of_cell x2)]; exact y2
          have A5 := Lib.hid (own_hs ho5)
          clear ho5 bl5 x2 y2 bX b4 p0 p1 p2 g2
          go_wp2_with fail
          refine (impl_from ac N cc (ps ++ qs) w5 HNN.out (by have := HNN.out; have h1 := rok_len HP.out; have h2 := rok_len HQ.out; rw [List.length_append] at this; omega) H64.out A5.out).mono ?_
          rintro e w6 ⟨ad, cd, rfl, ho6, bl6⟩
          have b6 := below_to b5 bl6
          have l2 := block_lt_of_cell q2
          simp only at l2
          have p2 := cell_to q2 bl6
          have g2 : w6.frozen? ⟨w.heap.size + 2, 0, none⟩ = false := by rw [bl6.frozen l2]; exact f2
          have H6 := Lib.hid ho6
          clear ho6 A5
          generalize hLL : regE (ps ++ qs) = LL at *
          generalize hlen : LL.length = len at *
          have z5 := b5.size
          have HF := Lib.hid (AnsR.yes (L := metL ps qs) (b := metB ps qs) HN.out.1.symm HN.out.2 (own_base (own_far (p := ⟨w.heap.size + 2, 0, none⟩) H6.out l2 (.slice ad len cd)) z5) (b6.setCell (p := ⟨w.heap.size + 2, 0, none⟩) (Nat.le_add_right _ _) (.slice ad len cd)))
          go_wp2_with fail
          exact bodyPost_ret (v := .tuple #[.agg #[.slice ad len cd], .bool (okF (ps ++ qs))]) (by simp [results, Tryz.results66, go_sem, p2]) rfl HF.out

theorem MakW.no {w w' : World} {L : List H3} (h : L = []) (hb : Below w.heap.size w w') : MakW w L (.returned (.agg #[.slice none 0 0])) w' := by
  subst h; exact ⟨none, 0, rfl, own3_none, hb⟩
theorem MakW.yes {w w' : World} {L M : List H3} {ao : Option Addr} {m cp : Nat} (h : M = L) (ho : w'.ownsRow w.heap.size 104 3 (.slice ao m cp) m (flat M)) (hb : Below w.heap.size w w') : MakW w L (.returned (.agg #[.slice ao m cp])) w' := by
  subst h; exact MakW.of ho hb
end Go.Proofs.YtibkmhmeoelpdaaGreat
