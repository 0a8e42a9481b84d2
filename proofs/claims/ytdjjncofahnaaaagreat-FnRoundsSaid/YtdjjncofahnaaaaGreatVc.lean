/- The program's RobustPart and its steps, over the translation. -/
import Derived.Test.YtdjjncofahnaaaaGreatVa
namespace Go.Proofs.YtdjjncofahnaaaaGreat
open Go.RowKit
open Geo (H3)

set_option maxRecDepth 100000 in
set_option maxHeartbeats 1600000 in
theorem impl_bno (am : Option Addr) (nm cm : Nat) (zs : List Int) (q bx cy lo hi : Int) (an : Option Addr) (nn cn : Nat) (ps : List H3) (al : Option Addr) (nl cl : Nat) (qs : List H3) (a : Option Addr) (n ca : Nat) (rs : List H3) (w : World) (hA : RAt w am nm zs an nn ps al nl qs) (h64 : R64 q bx cy lo hi ps qs) (hle : nm + nn + nl ≤ 1048576) (hl : rs.length = n) (hn : n ≤ 1048576) (hr64 : ∀ h ∈ rs, In64 h) (_hz : a = none → n = 0 ∧ ca = 0) (hG : HsAt w a rs) :
    Calls Tryz.prog 100 #[.agg #[.slice am nm cm, .int .i64 q, .int .i64 bx, .int .i64 cy, .slice am nm cm, .int .i64 q, .int .i64 bx, .int .i64 cy, .int .i64 lo, .int .i64 hi, .slice an nn cn, .slice al nl cl], .agg #[.slice a n ca]] w (AnsR w (eroL rs ps) (eroB rs ps)) := by
  have bV := below_bx2 (below_bx2 (below_one w (.cells #[.slice am nm cm, .int .i64 q, .int .i64 bx, .int .i64 cy, .slice am nm cm, .int .i64 q, .int .i64 bx, .int .i64 cy, .int .i64 lo, .int .i64 hi, .slice an nn cn, .slice al nl cl] 81)) (.cells #[.slice a n ca] 26)) (.cells #[.slice none 0 0] 26)
  have K0 := ((blk_new w #[.slice am nm cm, .int .i64 q, .int .i64 bx, .int .i64 cy, .slice am nm cm, .int .i64 q, .int .i64 bx, .int .i64 cy, .int .i64 lo, .int .i64 hi, .slice an nn cn, .slice al nl cl] 81 (b := w.heap.size) (by simp)).to (below_one _ (.cells #[.slice a n ca] 26))).to (below_one _ (.cells #[.slice none 0 0] 26))
  have K1 := (blk_new (w.alloc (.cells #[.slice am nm cm, .int .i64 q, .int .i64 bx, .int .i64 cy, .slice am nm cm, .int .i64 q, .int .i64 bx, .int .i64 cy, .int .i64 lo, .int .i64 hi, .slice an nn cn, .slice al nl cl] 81)) #[.slice a n ca] 26 (b := w.heap.size + 1) (by simp)).to (below_one _ (.cells #[.slice none 0 0] 26))
  have K2 := blk_new ((w.alloc (.cells #[.slice am nm cm, .int .i64 q, .int .i64 bx, .int .i64 cy, .slice am nm cm, .int .i64 q, .int .i64 bx, .int .i64 cy, .int .i64 lo, .int .i64 hi, .slice an nn cn, .slice al nl cl] 81)).alloc (.cells #[.slice a n ca] 26)) #[.slice none 0 0] 26 (b := w.heap.size + 1 + 1) (by simp)
  have HC := Lib.hid (fun V (h : Below w.heap.size w V) => impl_ero a an n nn ca cn rs ps V hl hA.ln hn (by omega) hr64 h64.ps (hG.below h) (hA.hn.below h))
  clear hA h64 hl hn hr64 _hz hG
  have k10 := K0.cell0 (i := 10) (v := .slice an nn cn) rfl
  have p0 := K1.cell0 (i := 0) (v := .slice a n ca) rfl
  go_enter Tryz.func100, Tryz.ntmps100
  go_wp2_with fail
  clear p0 k10
  generalize (((w.alloc (.cells #[.slice am nm cm, .int .i64 q, .int .i64 bx, .int .i64 cy, .slice am nm cm, .int .i64 q, .int .i64 bx, .int .i64 cy, .int .i64 lo, .int .i64 hi, .slice an nn cn, .slice al nl cl] 81)).alloc (.cells #[.slice a n ca] 26)).alloc (.cells #[.slice none 0 0] 26)) = V at *
  refine (HC.out _ bV).mono ?_
  rintro e w1 ⟨ag, cg, rfl, ho, bl1⟩
  have L2 := K2.to bl1
  have q2 := L2.cell0 (i := 0) (v := .slice none 0 0) rfl
  have f2 := L2.free 0
  have HF := Lib.hid (AnsR.put (p := ⟨w.heap.size + 1 + 1, 0, none⟩) (w := w) (L := eroL rs ps) (b := eroB rs ps) ho rfl rfl bV bl1 K2.lt (Nat.le_add_right _ 2))
  clear ho bl1 bV K0 K1 K2 HC
  generalize (eroL rs ps).length = len at *
  generalize (eroB rs ps) = R at *
  go_wp2_with fail
  exact bodyPost_ret (v := .tuple #[.agg #[.slice ag len cg], .bool R]) (by simp [results, Tryz.results100, go_sem, q2]) rfl HF.out
set_option maxRecDepth 100000 in
set_option maxHeartbeats 1600000 in
theorem impl_bin (am : Option Addr) (nm cm : Nat) (zs : List Int) (q bx cy lo hi : Int) (an : Option Addr) (nn cn : Nat) (ps : List H3) (al : Option Addr) (nl cl : Nat) (qs : List H3) (a : Option Addr) (n ca : Nat) (rs : List H3) (w : World) (_hA : RAt w am nm zs an nn ps al nl qs) (_h64 : R64 q bx cy lo hi ps qs) (_hle : nm + nn + nl ≤ 1048576) (hl : rs.length = n) (hn : n ≤ 1048576) (hr64 : ∀ h ∈ rs, In64 h) (hz : a = none → n = 0 ∧ ca = 0) (hG : HsAt w a rs) :
    Calls Tryz.prog 101 #[.agg #[.slice am nm cm, .int .i64 q, .int .i64 bx, .int .i64 cy, .slice am nm cm, .int .i64 q, .int .i64 bx, .int .i64 cy, .int .i64 lo, .int .i64 hi, .slice an nn cn, .slice al nl cl], .agg #[.slice a n ca]] w (AnsR w (gwL rs bx cy lo hi) (gwB rs bx cy lo hi)) := by
  have bV := below_bx2 (below_bx2 (below_one w (.cells #[.slice am nm cm, .int .i64 q, .int .i64 bx, .int .i64 cy, .slice am nm cm, .int .i64 q, .int .i64 bx, .int .i64 cy, .int .i64 lo, .int .i64 hi, .slice an nn cn, .slice al nl cl] 81)) (.cells #[.slice a n ca] 26)) (.cells #[.slice none 0 0] 26)
  have K0 := ((blk_new w #[.slice am nm cm, .int .i64 q, .int .i64 bx, .int .i64 cy, .slice am nm cm, .int .i64 q, .int .i64 bx, .int .i64 cy, .int .i64 lo, .int .i64 hi, .slice an nn cn, .slice al nl cl] 81 (b := w.heap.size) (by simp)).to (below_one _ (.cells #[.slice a n ca] 26))).to (below_one _ (.cells #[.slice none 0 0] 26))
  have K1 := (blk_new (w.alloc (.cells #[.slice am nm cm, .int .i64 q, .int .i64 bx, .int .i64 cy, .slice am nm cm, .int .i64 q, .int .i64 bx, .int .i64 cy, .int .i64 lo, .int .i64 hi, .slice an nn cn, .slice al nl cl] 81)) #[.slice a n ca] 26 (b := w.heap.size + 1) (by simp)).to (below_one _ (.cells #[.slice none 0 0] 26))
  have K2 := blk_new ((w.alloc (.cells #[.slice am nm cm, .int .i64 q, .int .i64 bx, .int .i64 cy, .slice am nm cm, .int .i64 q, .int .i64 bx, .int .i64 cy, .int .i64 lo, .int .i64 hi, .slice an nn cn, .slice al nl cl] 81)).alloc (.cells #[.slice a n ca] 26)) #[.slice none 0 0] 26 (b := w.heap.size + 1 + 1) (by simp)
  have HC := Lib.hid (fun V (h : Below w.heap.size w V) => impl_grw a n ca rs bx cy lo hi V hl hn hr64 hz (hG.below h))
  clear _hA _h64 hl hn hr64 hz hG
  have k2 := K0.cell0 (i := 2) (v := .int .i64 bx) rfl
  have k3 := K0.cell0 (i := 3) (v := .int .i64 cy) rfl
  have k8 := K0.cell0 (i := 8) (v := .int .i64 lo) rfl
  have k9 := K0.cell0 (i := 9) (v := .int .i64 hi) rfl
  have p0 := K1.cell0 (i := 0) (v := .slice a n ca) rfl
  go_enter Tryz.func101, Tryz.ntmps101
  go_wp2_with fail
  clear p0 k2 k3 k8 k9
  generalize (((w.alloc (.cells #[.slice am nm cm, .int .i64 q, .int .i64 bx, .int .i64 cy, .slice am nm cm, .int .i64 q, .int .i64 bx, .int .i64 cy, .int .i64 lo, .int .i64 hi, .slice an nn cn, .slice al nl cl] 81)).alloc (.cells #[.slice a n ca] 26)).alloc (.cells #[.slice none 0 0] 26)) = V at *
  refine (HC.out _ bV).mono ?_
  rintro e w1 ⟨ag, cg, rfl, ho, bl1⟩
  have L2 := K2.to bl1
  have q2 := L2.cell0 (i := 0) (v := .slice none 0 0) rfl
  have f2 := L2.free 0
  have HF := Lib.hid (AnsR.put (p := ⟨w.heap.size + 1 + 1, 0, none⟩) (w := w) (L := gwL rs bx cy lo hi) (b := gwB rs bx cy lo hi) ho rfl rfl bV bl1 K2.lt (Nat.le_add_right _ 2))
  clear ho bl1 bV K0 K1 K2 HC
  generalize (gwL rs bx cy lo hi).length = len at *
  generalize (gwB rs bx cy lo hi) = R at *
  go_wp2_with fail
  exact bodyPost_ret (v := .tuple #[.agg #[.slice ag len cg], .bool R]) (by simp [results, Tryz.results101, go_sem, q2]) rfl HF.out
set_option maxRecDepth 100000 in
set_option maxHeartbeats 1600000 in
theorem impl_bma (am : Option Addr) (nm cm : Nat) (zs : List Int) (q bx cy lo hi : Int) (an : Option Addr) (nn cn : Nat) (ps : List H3) (al : Option Addr) (nl cl : Nat) (qs : List H3) (a : Option Addr) (n ca : Nat) (rs : List H3) (w : World) (hA : RAt w am nm zs an nn ps al nl qs) (_h64 : R64 q bx cy lo hi ps qs) (_hle : nm + nn + nl ≤ 1048576) (hl : rs.length = n) (hn : n ≤ 1048576) (hr64 : ∀ h ∈ rs, In64 h) (_hz : a = none → n = 0 ∧ ca = 0) (hG : HsAt w a rs) :
    Calls Tryz.prog 102 #[.agg #[.slice am nm cm, .int .i64 q, .int .i64 bx, .int .i64 cy, .slice am nm cm, .int .i64 q, .int .i64 bx, .int .i64 cy, .int .i64 lo, .int .i64 hi, .slice an nn cn, .slice al nl cl], .agg #[.slice a n ca]] w (AnsR w (pbkL rs zs q) (pbkB rs zs q)) := by
  have bV := below_bx2 (below_bx2 (below_one w (.cells #[.slice am nm cm, .int .i64 q, .int .i64 bx, .int .i64 cy, .slice am nm cm, .int .i64 q, .int .i64 bx, .int .i64 cy, .int .i64 lo, .int .i64 hi, .slice an nn cn, .slice al nl cl] 81)) (.cells #[.slice a n ca] 26)) (.cells #[.slice none 0 0] 26)
  have K0 := ((blk_new w #[.slice am nm cm, .int .i64 q, .int .i64 bx, .int .i64 cy, .slice am nm cm, .int .i64 q, .int .i64 bx, .int .i64 cy, .int .i64 lo, .int .i64 hi, .slice an nn cn, .slice al nl cl] 81 (b := w.heap.size) (by simp)).to (below_one _ (.cells #[.slice a n ca] 26))).to (below_one _ (.cells #[.slice none 0 0] 26))
  have K1 := (blk_new (w.alloc (.cells #[.slice am nm cm, .int .i64 q, .int .i64 bx, .int .i64 cy, .slice am nm cm, .int .i64 q, .int .i64 bx, .int .i64 cy, .int .i64 lo, .int .i64 hi, .slice an nn cn, .slice al nl cl] 81)) #[.slice a n ca] 26 (b := w.heap.size + 1) (by simp)).to (below_one _ (.cells #[.slice none 0 0] 26))
  have K2 := blk_new ((w.alloc (.cells #[.slice am nm cm, .int .i64 q, .int .i64 bx, .int .i64 cy, .slice am nm cm, .int .i64 q, .int .i64 bx, .int .i64 cy, .int .i64 lo, .int .i64 hi, .slice an nn cn, .slice al nl cl] 81)).alloc (.cells #[.slice a n ca] 26)) #[.slice none 0 0] 26 (b := w.heap.size + 1 + 1) (by simp)
  have HC := Lib.hid (fun V (h : Below w.heap.size w V) => impl_pb a n ca rs am nm cm zs q V hl hn hr64 hA.lm (hG.below h) (hA.hm.below h))
  clear hA _h64 hl hn hr64 _hz hG
  have k0 := K0.cell0 (i := 0) (v := .slice am nm cm) rfl
  have k1 := K0.cell0 (i := 1) (v := .int .i64 q) rfl
  have p0 := K1.cell0 (i := 0) (v := .slice a n ca) rfl
  go_enter Tryz.func102, Tryz.ntmps102
  go_wp2_with fail
  clear p0 k0 k1
  generalize (((w.alloc (.cells #[.slice am nm cm, .int .i64 q, .int .i64 bx, .int .i64 cy, .slice am nm cm, .int .i64 q, .int .i64 bx, .int .i64 cy, .int .i64 lo, .int .i64 hi, .slice an nn cn, .slice al nl cl] 81)).alloc (.cells #[.slice a n ca] 26)).alloc (.cells #[.slice none 0 0] 26)) = V at *
  refine (HC.out _ bV).mono ?_
  rintro e w1 ⟨ag, cg, rfl, ho, bl1⟩
  have L2 := K2.to bl1
  have q2 := L2.cell0 (i := 0) (v := .slice none 0 0) rfl
  have f2 := L2.free 0
  have HF := Lib.hid (AnsR.put (p := ⟨w.heap.size + 1 + 1, 0, none⟩) (w := w) (L := pbkL rs zs q) (b := pbkB rs zs q) ho rfl rfl bV bl1 K2.lt (Nat.le_add_right _ 2))
  clear ho bl1 bV K0 K1 K2 HC
  generalize (pbkL rs zs q).length = len at *
  generalize (pbkB rs zs q) = R at *
  go_wp2_with fail
  exact bodyPost_ret (v := .tuple #[.agg #[.slice ag len cg], .bool R]) (by simp [results, Tryz.results102, go_sem, q2]) rfl HF.out
end Go.Proofs.YtdjjncofahnaaaaGreat
