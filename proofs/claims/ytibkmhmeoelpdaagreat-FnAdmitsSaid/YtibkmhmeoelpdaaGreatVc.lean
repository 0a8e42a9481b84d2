/- What RobustPart, PreRegion, KeepRegion and IsKept answer. The program's RobustPart and its steps, over the translation. -/
import Derived.Test.YtibkmhmeoelpdaaGreatKc
import Derived.Test.YtibkmhmeoelpdaaGreatPc
import Derived.Test.YtibkmhmeoelpdaaGreatEs
import Derived.Test.YtibkmhmeoelpdaaGreatWk
namespace Go.Proofs.YtibkmhmeoelpdaaGreat
open Go.RowKit
open Geo (H3)

theorem regE_len (hs : List H3) : (regE hs).length ≤ 40 := by
  unfold regE
  split
  · rename_i h
    unfold okF at h
    simp only [Bool.and_eq_true, decide_eq_true_eq] at h
    exact h.2
  · simp
theorem mvL_64 (B : H3 → Bool) (M : H3 → H3) (fu ps : List H3) : ∀ h ∈ mvL B M fu ps, In64 h := by
  intro h hh
  unfold mvL at hh
  split at hh
  · rename_i k
    obtain ⟨k1, k2⟩ := k
    unfold mvB at k1
    rw [decide_eq_false k2, Bool.false_or, Bool.and_eq_true] at k1
    have k3 := k1.2
    unfold okF at k3
    simp only [Bool.and_eq_true] at k3
    exact ok_in64 (regL_ok k3.1.2 h hh)
  · simp at hh
theorem ero_64 (ps qs : List H3) : ∀ h ∈ eroL ps qs, In64 h := by
  intro h hh
  unfold eroL at hh
  split at hh
  · exact mvL_64 _ _ _ _ h hh
  · simp at hh
theorem ero_len (ps qs : List H3) : (eroL ps qs).length ≤ 40 := by
  unfold eroL; split
  · exact mvL_len _ _ _ _
  · simp
theorem gw_64 {ps : List H3} (h64 : ∀ h ∈ ps, In64 h) (bx cy lo hi : Int) : ∀ h ∈ gwL ps bx cy lo hi, In64 h := by
  intro h hh
  unfold gwL at hh
  split at hh
  · split at hh
    · exact h64 h hh
    · split at hh
      · exact mvL_64 _ _ _ _ h hh
      · simp at hh
  · simp at hh
theorem pbk_64 (ps : List H3) (zs : List Int) (q : Int) : ∀ h ∈ pbkL ps zs q, In64 h := by
  intro h hh
  unfold pbkL at hh
  split at hh
  · exact mvL_64 _ _ _ _ h hh
  · simp at hh
theorem met_64 (ps qs : List H3) : ∀ h ∈ metL ps qs, In64 h := by
  intro h hh
  by_cases k : metB ps qs = true ∧ ps ≠ [] ∧ qs ≠ []
  · obtain ⟨k1, k2, k3⟩ := k
    unfold metB at k1
    simp only [Bool.and_eq_true] at k1
    obtain ⟨e1, e2⟩ := met_yes k1.1.1 k1.1.2 k2 k3
    rw [e1] at hh
    unfold regE at hh
    split at hh
    · rename_i k
      unfold okF at k
      simp only [Bool.and_eq_true] at k
      exact ok_in64 (regL_ok k.1.2 h hh)
    · simp at hh
  · unfold metL at hh
    rw [if_neg k] at hh
    simp at hh
theorem met_len (ps qs : List H3) : (metL ps qs).length ≤ 40 := by
  by_cases k : metB ps qs = true ∧ ps ≠ [] ∧ qs ≠ []
  · obtain ⟨k1, k2, k3⟩ := k
    have k4 := k1
    unfold metB at k1
    simp only [Bool.and_eq_true] at k1
    obtain ⟨e1, e2⟩ := met_yes k1.1.1 k1.1.2 k2 k3
    rw [e1]
    exact regE_len _
  · unfold metL
    rw [if_neg k]
    simp
/-- RobustPart of a room and a region -/
noncomputable def rpB (zs : List Int) (q bx cy lo hi : Int) (ps qs rs : List H3) : Bool := rmB zs q bx cy lo hi ps qs && eroB rs ps
noncomputable def rpL (zs : List Int) (q bx cy lo hi : Int) (ps qs rs : List H3) : List H3 := if rmB zs q bx cy lo hi ps qs = true then eroL rs ps else []
theorem rp_no {zs : List Int} {q bx cy lo hi : Int} {ps qs rs : List H3} (h : rmB zs q bx cy lo hi ps qs = false) : rpL zs q bx cy lo hi ps qs rs = [] ∧ rpB zs q bx cy lo hi ps qs rs = false := by
  unfold rpL rpB; rw [h]; simp
theorem rp_yes {zs : List Int} {q bx cy lo hi : Int} {ps qs rs : List H3} (h : rmB zs q bx cy lo hi ps qs = true) : rpL zs q bx cy lo hi ps qs rs = eroL rs ps ∧ rpB zs q bx cy lo hi ps qs rs = eroB rs ps := by
  unfold rpL rpB; rw [h]; simp
/-- PreRegion of a room and a region -/
noncomputable def prG (bx cy lo hi : Int) (ps rs : List H3) : List H3 := gwL (eroL rs ps) bx cy lo hi
noncomputable def prB (zs : List Int) (q bx cy lo hi : Int) (ps qs rs : List H3) : Bool := rmB zs q bx cy lo hi ps qs && eroB rs ps && gwB (eroL rs ps) bx cy lo hi && pbkB (prG bx cy lo hi ps rs) zs q
noncomputable def prL (zs : List Int) (q bx cy lo hi : Int) (ps qs rs : List H3) : List H3 := if prB zs q bx cy lo hi ps qs rs = true then pbkL (prG bx cy lo hi ps rs) zs q else []
theorem pr_no {zs : List Int} {q bx cy lo hi : Int} {ps qs rs : List H3} (h : (rmB zs q bx cy lo hi ps qs && eroB rs ps && gwB (eroL rs ps) bx cy lo hi) = false) : prL zs q bx cy lo hi ps qs rs = [] ∧ prB zs q bx cy lo hi ps qs rs = false := by
  unfold prL prB; rw [h]; simp
theorem prG_64 (bx cy lo hi : Int) (ps rs : List H3) : ∀ h ∈ prG bx cy lo hi ps rs, In64 h := gw_64 (ero_64 rs ps) bx cy lo hi
theorem prG_len (bx cy lo hi : Int) (ps rs : List H3) : (prG bx cy lo hi ps rs).length ≤ 40 := gw_len _ bx cy lo hi
theorem prL_len (zs : List Int) (q bx cy lo hi : Int) (ps qs rs : List H3) : (prL zs q bx cy lo hi ps qs rs).length ≤ 40 := by
  unfold prL; split
  · exact pbk_len _ _ _
  · simp
theorem prL_64 (zs : List Int) (q bx cy lo hi : Int) (ps qs rs : List H3) : ∀ h ∈ prL zs q bx cy lo hi ps qs rs, In64 h := by
  intro h hh
  unfold prL at hh
  split at hh
  · exact pbk_64 _ _ _ h hh
  · simp at hh
/-- KeepRegion of a room and a region -/
noncomputable def kpB (zs : List Int) (q bx cy lo hi : Int) (ps qs rs : List H3) : Bool := prB zs q bx cy lo hi ps qs rs && metB rs (prL zs q bx cy lo hi ps qs rs)
noncomputable def kpL (zs : List Int) (q bx cy lo hi : Int) (ps qs rs : List H3) : List H3 := if prB zs q bx cy lo hi ps qs rs = true then metL rs (prL zs q bx cy lo hi ps qs rs) else []
theorem kp_no {zs : List Int} {q bx cy lo hi : Int} {ps qs rs : List H3} (h : prB zs q bx cy lo hi ps qs rs = false) : kpL zs q bx cy lo hi ps qs rs = [] ∧ kpB zs q bx cy lo hi ps qs rs = false := by
  unfold kpL kpB; rw [h]; simp
theorem kp_yes {zs : List Int} {q bx cy lo hi : Int} {ps qs rs : List H3} (h : prB zs q bx cy lo hi ps qs rs = true) : kpL zs q bx cy lo hi ps qs rs = metL rs (prL zs q bx cy lo hi ps qs rs) ∧ kpB zs q bx cy lo hi ps qs rs = metB rs (prL zs q bx cy lo hi ps qs rs) := by
  unfold kpL kpB; rw [h]; simp
theorem kpL_len (zs : List Int) (q bx cy lo hi : Int) (ps qs rs : List H3) : (kpL zs q bx cy lo hi ps qs rs).length ≤ 40 := by
  unfold kpL; split
  · exact met_len _ _
  · simp
/-- IsKept of a room and a region -/
noncomputable def ikB (zs : List Int) (q bx cy lo hi : Int) (ps qs rs : List H3) : Bool := prB zs q bx cy lo hi ps qs rs && wiB rs qs && wiB rs (prL zs q bx cy lo hi ps qs rs)
open Go.RowKit
open Geo (H3)

set_option maxRecDepth 100000 in
set_option maxHeartbeats 1600000 in
theorem impl_bno (am : Option Addr) (nm cm : Nat) (zs : List Int) (q bx cy lo hi : Int) (an : Option Addr) (nn cn : Nat) (ps : List H3) (al : Option Addr) (nl cl : Nat) (qs : List H3) (a : Option Addr) (n ca : Nat) (rs : List H3) (w : World) (hA : RAt w am nm zs an nn ps al nl qs) (h64 : R64 q bx cy lo hi ps qs) (hle : nm + nn + nl ≤ 1048576) (hl : rs.length = n) (hn : n ≤ 1048576) (hr64 : ∀ h ∈ rs, In64 h) (_hz : a = none → n = 0 ∧ ca = 0) (hG : HsAt w a rs) :
    Calls Tryz.prog 57 #[.agg #[.slice am nm cm, .int .i64 q, .int .i64 bx, .int .i64 cy, .slice am nm cm, .int .i64 q, .int .i64 bx, .int .i64 cy, .int .i64 lo, .int .i64 hi, .slice an nn cn, .slice al nl cl], .agg #[.slice a n ca]] w (AnsR w (eroL rs ps) (eroB rs ps)) := by
  have bV := below_bx2 (below_bx2 (below_one w (.cells #[.slice am nm cm, .int .i64 q, .int .i64 bx, .int .i64 cy, .slice am nm cm, .int .i64 q, .int .i64 bx, .int .i64 cy, .int .i64 lo, .int .i64 hi, .slice an nn cn, .slice al nl cl] 91)) (.cells #[.slice a n ca] 40)) (.cells #[.slice none 0 0] 40)
  have K0 := ((blk_new w #[.slice am nm cm, .int .i64 q, .int .i64 bx, .int .i64 cy, .slice am nm cm, .int .i64 q, .int .i64 bx, .int .i64 cy, .int .i64 lo, .int .i64 hi, .slice an nn cn, .slice al nl cl] 91 (b := w.heap.size) (by simp)).to (below_one _ (.cells #[.slice a n ca] 40))).to (below_one _ (.cells #[.slice none 0 0] 40))
  have K1 := (blk_new (w.alloc (.cells #[.slice am nm cm, .int .i64 q, .int .i64 bx, .int .i64 cy, .slice am nm cm, .int .i64 q, .int .i64 bx, .int .i64 cy, .int .i64 lo, .int .i64 hi, .slice an nn cn, .slice al nl cl] 91)) #[.slice a n ca] 40 (b := w.heap.size + 1) (by simp)).to (below_one _ (.cells #[.slice none 0 0] 40))
  have K2 := blk_new ((w.alloc (.cells #[.slice am nm cm, .int .i64 q, .int .i64 bx, .int .i64 cy, .slice am nm cm, .int .i64 q, .int .i64 bx, .int .i64 cy, .int .i64 lo, .int .i64 hi, .slice an nn cn, .slice al nl cl] 91)).alloc (.cells #[.slice a n ca] 40)) #[.slice none 0 0] 40 (b := w.heap.size + 1 + 1) (by simp)
  have HC := Lib.hid (fun V (h : Below w.heap.size w V) => impl_ero a an n nn ca cn rs ps V hl hA.ln hn (by omega) hr64 h64.ps (hG.below h) (hA.hn.below h))
  clear hA h64 hl hn hr64 _hz hG
  have k10 := K0.cell0 (i := 10) (v := .slice an nn cn) rfl
  have p0 := K1.cell0 (i := 0) (v := .slice a n ca) rfl
  go_enter Tryz.func57, Tryz.ntmps57
  go_wp2_with fail
  clear p0 k10
  generalize (((w.alloc (.cells #[.slice am nm cm, .int .i64 q, .int .i64 bx, .int .i64 cy, .slice am nm cm, .int .i64 q, .int .i64 bx, .int .i64 cy, .int .i64 lo, .int .i64 hi, .slice an nn cn, .slice al nl cl] 91)).alloc (.cells #[.slice a n ca] 40)).alloc (.cells #[.slice none 0 0] 40)) = V at *
  refine (HC.out _ bV).mono ?_
  rintro e w1 ⟨ag, cg, rfl, ho, bl1⟩
  have L2 := K2.to bl1
  have q2 := L2.cell0 (i := 0) (v := .slice none 0 0) rfl
  have f2 := L2.free 0
  have HF := Lib.hid (AnsR.put (p := ⟨w.heap.size + 1 + 1, 0, none⟩) (w := w) (L := eroL rs ps) (b := eroB rs ps) ho rfl rfl bV bl1 K2.lt (Nat.le_add_right _ 2))
  clear ho bl1 bV K0 K1 K2 HC
  generalize (eroL rs ps).length = len at *
  generalize (eroB rs ps) = R at *
  go_wp2_with fail
  exact bodyPost_ret (v := .tuple #[.agg #[.slice ag len cg], .bool R]) (by simp [results, Tryz.results57, go_sem, q2]) rfl HF.out
set_option maxRecDepth 100000 in
set_option maxHeartbeats 1600000 in
theorem impl_bin (am : Option Addr) (nm cm : Nat) (zs : List Int) (q bx cy lo hi : Int) (an : Option Addr) (nn cn : Nat) (ps : List H3) (al : Option Addr) (nl cl : Nat) (qs : List H3) (a : Option Addr) (n ca : Nat) (rs : List H3) (w : World) (_hA : RAt w am nm zs an nn ps al nl qs) (_h64 : R64 q bx cy lo hi ps qs) (_hle : nm + nn + nl ≤ 1048576) (hl : rs.length = n) (hn : n ≤ 1048576) (hr64 : ∀ h ∈ rs, In64 h) (hz : a = none → n = 0 ∧ ca = 0) (hG : HsAt w a rs) :
    Calls Tryz.prog 58 #[.agg #[.slice am nm cm, .int .i64 q, .int .i64 bx, .int .i64 cy, .slice am nm cm, .int .i64 q, .int .i64 bx, .int .i64 cy, .int .i64 lo, .int .i64 hi, .slice an nn cn, .slice al nl cl], .agg #[.slice a n ca]] w (AnsR w (gwL rs bx cy lo hi) (gwB rs bx cy lo hi)) := by
  have bV := below_bx2 (below_bx2 (below_one w (.cells #[.slice am nm cm, .int .i64 q, .int .i64 bx, .int .i64 cy, .slice am nm cm, .int .i64 q, .int .i64 bx, .int .i64 cy, .int .i64 lo, .int .i64 hi, .slice an nn cn, .slice al nl cl] 91)) (.cells #[.slice a n ca] 40)) (.cells #[.slice none 0 0] 40)
  have K0 := ((blk_new w #[.slice am nm cm, .int .i64 q, .int .i64 bx, .int .i64 cy, .slice am nm cm, .int .i64 q, .int .i64 bx, .int .i64 cy, .int .i64 lo, .int .i64 hi, .slice an nn cn, .slice al nl cl] 91 (b := w.heap.size) (by simp)).to (below_one _ (.cells #[.slice a n ca] 40))).to (below_one _ (.cells #[.slice none 0 0] 40))
  have K1 := (blk_new (w.alloc (.cells #[.slice am nm cm, .int .i64 q, .int .i64 bx, .int .i64 cy, .slice am nm cm, .int .i64 q, .int .i64 bx, .int .i64 cy, .int .i64 lo, .int .i64 hi, .slice an nn cn, .slice al nl cl] 91)) #[.slice a n ca] 40 (b := w.heap.size + 1) (by simp)).to (below_one _ (.cells #[.slice none 0 0] 40))
  have K2 := blk_new ((w.alloc (.cells #[.slice am nm cm, .int .i64 q, .int .i64 bx, .int .i64 cy, .slice am nm cm, .int .i64 q, .int .i64 bx, .int .i64 cy, .int .i64 lo, .int .i64 hi, .slice an nn cn, .slice al nl cl] 91)).alloc (.cells #[.slice a n ca] 40)) #[.slice none 0 0] 40 (b := w.heap.size + 1 + 1) (by simp)
  have HC := Lib.hid (fun V (h : Below w.heap.size w V) => impl_grw a n ca rs bx cy lo hi V hl hn hr64 hz (hG.below h))
  clear _hA _h64 hl hn hr64 hz hG
  have k2 := K0.cell0 (i := 2) (v := .int .i64 bx) rfl
  have k3 := K0.cell0 (i := 3) (v := .int .i64 cy) rfl
  have k8 := K0.cell0 (i := 8) (v := .int .i64 lo) rfl
  have k9 := K0.cell0 (i := 9) (v := .int .i64 hi) rfl
  have p0 := K1.cell0 (i := 0) (v := .slice a n ca) rfl
  go_enter Tryz.func58, Tryz.ntmps58
  go_wp2_with fail
  clear p0 k2 k3 k8 k9
  generalize (((w.alloc (.cells #[.slice am nm cm, .int .i64 q, .int .i64 bx, .int .i64 cy, .slice am nm cm, .int .i64 q, .int .i64 bx, .int .i64 cy, .int .i64 lo, .int .i64 hi, .slice an nn cn, .slice al nl cl] 91)).alloc (.cells #[.slice a n ca] 40)).alloc (.cells #[.slice none 0 0] 40)) = V at *
  refine (HC.out _ bV).mono ?_
  rintro e w1 ⟨ag, cg, rfl, ho, bl1⟩
  have L2 := K2.to bl1
  have q2 := L2.cell0 (i := 0) (v := .slice none 0 0) rfl
  have f2 := L2.free 0
  have HF := Lib.hid (AnsR.put (p := ⟨w.heap.size + 1 + 1, 0, none⟩) (w := w) (L := gwL rs bx cy lo hi) (b := gwB rs bx cy lo hi) ho rfl rfl bV bl1 K2.lt (Nat.le_add_right _ 2))
  clear ho bl1 bV K0 K1 K2 HC
  generalize (gwL rs bx cy lo hi).length = len at *
  generalize (gwB rs bx cy lo hi) = R at *
  go_wp2_with fail
  exact bodyPost_ret (v := .tuple #[.agg #[.slice ag len cg], .bool R]) (by simp [results, Tryz.results58, go_sem, q2]) rfl HF.out
set_option maxRecDepth 100000 in
set_option maxHeartbeats 1600000 in
theorem impl_bma (am : Option Addr) (nm cm : Nat) (zs : List Int) (q bx cy lo hi : Int) (an : Option Addr) (nn cn : Nat) (ps : List H3) (al : Option Addr) (nl cl : Nat) (qs : List H3) (a : Option Addr) (n ca : Nat) (rs : List H3) (w : World) (hA : RAt w am nm zs an nn ps al nl qs) (_h64 : R64 q bx cy lo hi ps qs) (_hle : nm + nn + nl ≤ 1048576) (hl : rs.length = n) (hn : n ≤ 1048576) (hr64 : ∀ h ∈ rs, In64 h) (_hz : a = none → n = 0 ∧ ca = 0) (hG : HsAt w a rs) :
    Calls Tryz.prog 59 #[.agg #[.slice am nm cm, .int .i64 q, .int .i64 bx, .int .i64 cy, .slice am nm cm, .int .i64 q, .int .i64 bx, .int .i64 cy, .int .i64 lo, .int .i64 hi, .slice an nn cn, .slice al nl cl], .agg #[.slice a n ca]] w (AnsR w (pbkL rs zs q) (pbkB rs zs q)) := by
  have bV := below_bx2 (below_bx2 (below_one w (.cells #[.slice am nm cm, .int .i64 q, .int .i64 bx, .int .i64 cy, .slice am nm cm, .int .i64 q, .int .i64 bx, .int .i64 cy, .int .i64 lo, .int .i64 hi, .slice an nn cn, .slice al nl cl] 91)) (.cells #[.slice a n ca] 40)) (.cells #[.slice none 0 0] 40)
  have K0 := ((blk_new w #[.slice am nm cm, .int .i64 q, .int .i64 bx, .int .i64 cy, .slice am nm cm, .int .i64 q, .int .i64 bx, .int .i64 cy, .int .i64 lo, .int .i64 hi, .slice an nn cn, .slice al nl cl] 91 (b := w.heap.size) (by simp)).to (below_one _ (.cells #[.slice a n ca] 40))).to (below_one _ (.cells #[.slice none 0 0] 40))
  have K1 := (blk_new (w.alloc (.cells #[.slice am nm cm, .int .i64 q, .int .i64 bx, .int .i64 cy, .slice am nm cm, .int .i64 q, .int .i64 bx, .int .i64 cy, .int .i64 lo, .int .i64 hi, .slice an nn cn, .slice al nl cl] 91)) #[.slice a n ca] 40 (b := w.heap.size + 1) (by simp)).to (below_one _ (.cells #[.slice none 0 0] 40))
  have K2 := blk_new ((w.alloc (.cells #[.slice am nm cm, .int .i64 q, .int .i64 bx, .int .i64 cy, .slice am nm cm, .int .i64 q, .int .i64 bx, .int .i64 cy, .int .i64 lo, .int .i64 hi, .slice an nn cn, .slice al nl cl] 91)).alloc (.cells #[.slice a n ca] 40)) #[.slice none 0 0] 40 (b := w.heap.size + 1 + 1) (by simp)
  have HC := Lib.hid (fun V (h : Below w.heap.size w V) => impl_pb a n ca rs am nm cm zs q V hl hn hr64 hA.lm (hG.below h) (hA.hm.below h))
  clear hA _h64 hl hn hr64 _hz hG
  have k0 := K0.cell0 (i := 0) (v := .slice am nm cm) rfl
  have k1 := K0.cell0 (i := 1) (v := .int .i64 q) rfl
  have p0 := K1.cell0 (i := 0) (v := .slice a n ca) rfl
  go_enter Tryz.func59, Tryz.ntmps59
  go_wp2_with fail
  clear p0 k0 k1
  generalize (((w.alloc (.cells #[.slice am nm cm, .int .i64 q, .int .i64 bx, .int .i64 cy, .slice am nm cm, .int .i64 q, .int .i64 bx, .int .i64 cy, .int .i64 lo, .int .i64 hi, .slice an nn cn, .slice al nl cl] 91)).alloc (.cells #[.slice a n ca] 40)).alloc (.cells #[.slice none 0 0] 40)) = V at *
  refine (HC.out _ bV).mono ?_
  rintro e w1 ⟨ag, cg, rfl, ho, bl1⟩
  have L2 := K2.to bl1
  have q2 := L2.cell0 (i := 0) (v := .slice none 0 0) rfl
  have f2 := L2.free 0
  have HF := Lib.hid (AnsR.put (p := ⟨w.heap.size + 1 + 1, 0, none⟩) (w := w) (L := pbkL rs zs q) (b := pbkB rs zs q) ho rfl rfl bV bl1 K2.lt (Nat.le_add_right _ 2))
  clear ho bl1 bV K0 K1 K2 HC
  generalize (pbkL rs zs q).length = len at *
  generalize (pbkB rs zs q) = R at *
  go_wp2_with fail
  exact bodyPost_ret (v := .tuple #[.agg #[.slice ag len cg], .bool R]) (by simp [results, Tryz.results59, go_sem, q2]) rfl HF.out
end Go.Proofs.YtibkmhmeoelpdaaGreat
