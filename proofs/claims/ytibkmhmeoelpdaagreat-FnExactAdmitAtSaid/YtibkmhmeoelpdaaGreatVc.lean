/- What RobustPart, PreRegion, KeepRegion and IsKept answer. The program's RobustPart and its steps, over the translation. -/
import Derived.Test.YtibkmhmeoelpdaaGreatKc
import Derived.Test.YtibkmhmeoelpdaaGreatMx
import Derived.Test.YtibkmhmeoelpdaaGreatEs
import Derived.Test.YtibkmhmeoelpdaaGreatWk
namespace Go.Proofs.YtibkmhmeoelpdaaGreat
open Go.RowKit
open Geo (H3)
/-- RobustPart of a room and a region -/
noncomputable def rpB (zs : List Int) (q bx cy lo hi : Int) (ps qs rs : List H3) : Bool := rmB zs q bx cy lo hi ps qs && eroB rs ps
noncomputable def rpL (zs : List Int) (q bx cy lo hi : Int) (ps qs rs : List H3) : List H3 := if rmB zs q bx cy lo hi ps qs = true then eroL rs ps else []
theorem rp_no {zs : List Int} {q bx cy lo hi : Int} {ps qs rs : List H3} (h : rmB zs q bx cy lo hi ps qs = false) : rpL zs q bx cy lo hi ps qs rs = [] ∧ rpB zs q bx cy lo hi ps qs rs = false := by
  unfold rpL rpB; rw [h]; simp
theorem rp_yes {zs : List Int} {q bx cy lo hi : Int} {ps qs rs : List H3} (h : rmB zs q bx cy lo hi ps qs = true) : rpL zs q bx cy lo hi ps qs rs = eroL rs ps ∧ rpB zs q bx cy lo hi ps qs rs = eroB rs ps := by
  unfold rpL rpB; rw [h]; simp
open Go.RowKit
open Geo (H3)

set_option maxRecDepth 100000 in
set_option maxHeartbeats 1600000 in
theorem impl_bno (am : Option Addr) (nm cm : Nat) (zs : List Int) (q bx cy lo hi : Int) (an : Option Addr) (nn cn : Nat) (ps : List H3) (al : Option Addr) (nl cl : Nat) (qs : List H3) (a : Option Addr) (n ca : Nat) (rs : List H3) (w : World) (hA : RAt w am nm zs an nn ps al nl qs) (h64 : R64 q bx cy lo hi ps qs) (hle : nm + nn + nl ≤ 1048576) (hl : rs.length = n) (hn : n ≤ 1048576) (hr64 : ∀ h ∈ rs, In64 h) (_hz : a = none → n = 0 ∧ ca = 0) (hG : HsAt w a rs) :
    Calls Tryz.prog 57 #[.agg #[.slice am nm cm, .int .i64 q, .int .i64 bx, .int .i64 cy, .slice am nm cm, .int .i64 q, .int .i64 bx, .int .i64 cy, .int .i64 lo, .int .i64 hi, .slice an nn cn, .slice al nl cl], .agg #[.slice a n ca]] w (AnsR w (eroL rs ps) (eroB rs ps)) := by
  have bV := below_bx2 (below_bx2 (below_one w (.cells #[.slice am nm cm, .int .i64 q, .int .i64 bx, .int .i64 cy, .slice am nm cm, .int .i64 q, .int .i64 bx, .int .i64 cy, .int .i64 lo, .int .i64 hi, .slice an nn cn, .slice al nl cl] 91)) (.cells #[.slice a n ca] 40)) (.cells #[.slice none 0 0] 40)
  have K0 := ((blk_new w #[.slice am nm cm, .int .i64 q, .int .i64 bx, .int .i64 cy, .slice am nm cm, .int .i64 q, .int .i64 bx, .int .i64 cy, .int .i64 lo, .int .i64 hi, .slice an nn cn, .slice al nl cl] 91 (b := w.heap.size) (by simp)).to (below_one _ (.cells #[.slice a n ca] 40))).to (below_one _ (.cells #[.slice none 0 0] 40))
  have K1 := (blk_new (w.alloc (.cells #[.slice am nm cm, .int .i64 q, .int .i64 bx, .int .i64 cy, .slice am nm cm, .int .i64 q, .int .i64 bx, .int .i64 cy, .int .i64 lo, .int .i64 hi, .slice an nn cn, .slice al nl cl] 91)) #[.slice a n ca] 40 (b := w.heap.size + 1) (by simp)).to (below_one _ (.cells #[.slice none 0 0] 40))
  have K2 := blk_new ((w.alloc (.cells #[.slice am nm cm, .int .i64 q, .int .i64 bx, .int .i64 cy, .slice am nm cm, .int .i64 q, .int .i64 bx, .int .i64 cy, .int .i64 lo, .int .i64 hi, .slice an nn cn, .slice al nl cl] 91)).alloc (.cells #[.slice a n ca] 40)) #[.slice none 0 0] 40 (b := w.heap.size + 1 + 1) (by simp)
  have HC := Lib.hid (fun V (h : Below w.heap.size w V) => impl_ero a an n nn ca cn rs ps V hl hA.ln hn (by omega) hr64 h64.ps (hG.below h) (hA.hn.below h))
  clear hA h64 hl hn hr64 _hz hG
  have k10 := K0.cell0 (i := 10) (v := .slice an nn cn) rfl
  have p0 := K1.cell0 (i := 0) (v := .slice a n ca) rfl
  go_enter Tryz.func57, Tryz.ntmps57
  go_wp2_with fail
  clear p0 k10
  generalize (((w.alloc (.cells #[.slice am nm cm, .int .i64 q, .int .i64 bx, .int .i64 cy, .slice am nm cm, .int .i64 q, .int .i64 bx, .int .i64 cy, .int .i64 lo, .int .i64 hi, .slice an nn cn, .slice al nl cl] 91)).alloc (.cells #[.slice a n ca] 40)).alloc (.cells #[.slice none 0 0] 40)) = V at *
  refine (HC.out _ bV).mono ?_
  rintro e w1 ⟨ag, cg, rfl, ho, bl1⟩
  have L2 := K2.to bl1
  have q2 := L2.cell0 (i := 0) (v := .slice none 0 0) rfl
  have f2 := L2.free 0
  have HF := Lib.hid (AnsR.put (p := ⟨w.heap.size + 1 + 1, 0, none⟩) (w := w) (L := eroL rs ps) (b := eroB rs ps) ho rfl rfl bV bl1 K2.lt (Nat.le_add_right _ 2))
  clear ho bl1 bV K0 K1 K2 HC
  generalize (eroL rs ps).length = len at *
  generalize (eroB rs ps) = R at *
  go_wp2_with fail
  exact bodyPost_ret (v := .tuple #[.agg #[.slice ag len cg], .bool R]) (by simp [results, Tryz.results57, go_sem, q2]) rfl HF.out
end Go.Proofs.YtibkmhmeoelpdaaGreat
