/- PreRegion of the model, and KeepRegion of both, over the translation. -/
import Derived.Test.YtdjjncofahnaaaaGreatVe
import Derived.Test.YtdjjncofahnaaaaGreatGv
import Derived.Test.YtdjjncofahnaaaaGreatPc
import Derived.Test.YtdjjncofahnaaaaGreatGs
namespace Go.Proofs.YtdjjncofahnaaaaGreat
open Go.RowKit
open Geo (H3)
set_option maxRecDepth 100000 in
set_option maxHeartbeats 1600000 in
theorem impl_kp (am : Option Addr) (nm cm : Nat) (zs : List Int) (q bx cy lo hi : Int) (an : Option Addr) (nn cn : Nat) (ps : List H3) (al : Option Addr) (nl cl : Nat) (qs : List H3) (a : Option Addr) (n ca : Nat) (rs : List H3) (w : World) (hA : RAt w am nm zs an nn ps al nl qs) (h64 : R64 q bx cy lo hi ps qs) (hle : nm + nn + nl ≤ 1048576) (hl : rs.length = n) (hn : n ≤ 1048576) (hr64 : ∀ h ∈ rs, In64 h) (hz : a = none → n = 0 ∧ ca = 0) (hG : HsAt w a rs) :
    Calls Tryz.prog 62 #[.agg #[.slice am nm cm, .int .i64 q, .int .i64 bx, .int .i64 cy, .int .i64 lo, .int .i64 hi, .slice an nn cn, .slice al nl cl], .agg #[.slice a n ca]] w (AnsR w (kpL zs q bx cy lo hi ps qs rs) (kpB zs q bx cy lo hi ps qs rs)) := by
  have bV := below_bx2 (below_bx2 (below_one w (.cells #[.slice am nm cm, .int .i64 q, .int .i64 bx, .int .i64 cy, .int .i64 lo, .int .i64 hi, .slice an nn cn, .slice al nl cl] 28)) (.cells #[.slice a n ca] 26)) (.cells #[.slice none 0 0] 26)
  have K0 := ((blk_new w #[.slice am nm cm, .int .i64 q, .int .i64 bx, .int .i64 cy, .int .i64 lo, .int .i64 hi, .slice an nn cn, .slice al nl cl] 28 (b := w.heap.size) (by simp)).to (below_one _ (.cells #[.slice a n ca] 26))).to (below_one _ (.cells #[.slice none 0 0] 26))
  have K1 := (blk_new (w.alloc (.cells #[.slice am nm cm, .int .i64 q, .int .i64 bx, .int .i64 cy, .int .i64 lo, .int .i64 hi, .slice an nn cn, .slice al nl cl] 28)) #[.slice a n ca] 26 (b := w.heap.size + 1) (by simp)).to (below_one _ (.cells #[.slice none 0 0] 26))
  have K2 := blk_new ((w.alloc (.cells #[.slice am nm cm, .int .i64 q, .int .i64 bx, .int .i64 cy, .int .i64 lo, .int .i64 hi, .slice an nn cn, .slice al nl cl] 28)).alloc (.cells #[.slice a n ca] 26)) #[.slice none 0 0] 26 (b := w.heap.size + 1 + 1) (by simp)
  have HE := Lib.hid (fun V (h : Below w.heap.size w V) => impl_pr am nm cm zs q bx cy lo hi an nn cn ps al nl cl qs a n ca rs V (hA.below h) h64 hle hl hn hr64 hz (hG.below h))
  have H1 := Lib.hid (fun V a1 c1 (h : Below w.heap.size w V) (_k0 : a1 = none → (prL zs q bx cy lo hi ps qs rs).length = 0 ∧ c1 = 0) (k : HsAt V a1 (prL zs q bx cy lo hi ps qs rs)) => impl_met a a1 n (prL zs q bx cy lo hi ps qs rs).length ca c1 rs (prL zs q bx cy lo hi ps qs rs) V hl rfl hn (Nat.le_trans (prL_len _ _ _ _ _ _ _ _ _) (by omega)) hr64 (prL_64 _ _ _ _ _ _ _ _ _) (hG.below h) k)
  clear hA h64 hl hn hr64 hz hG
  have c0_0 := K0.c8_0
  have c0_1 := K0.c8_1
  have c0_2 := K0.c8_2
  have c0_3 := K0.c8_3
  have c0_4 := K0.c8_4
  have c0_5 := K0.c8_5
  have c0_6 := K0.c8_6
  have c0_7 := K0.c8_7
  have c1_0 := K1.cell0 (i := 0) (v := .slice a n ca) rfl
  go_enter Tryz.func62, Tryz.ntmps62
  go_wp2_with fail
  clear c0_0 c0_1 c0_2 c0_3 c0_4 c0_5 c0_6 c0_7 c1_0
  generalize (((w.alloc (.cells #[.slice am nm cm, .int .i64 q, .int .i64 bx, .int .i64 cy, .int .i64 lo, .int .i64 hi, .slice an nn cn, .slice al nl cl] 28)).alloc (.cells #[.slice a n ca] 26)).alloc (.cells #[.slice none 0 0] 26)) = V at *
  refine (HE.out _ bV).mono ?_
  rintro e w1 ⟨ag, cg, rfl, ho, bl1⟩
  have b1 := below_to bV bl1
  have L1 := K1.to bl1
  have L2 := K2.to bl1
  clear bV K0 K1 K2 HE
  have bY := below_one w1 (.cells #[.slice ag (prL zs q bx cy lo hi ps qs rs).length cg] 26)
  have b2 := below_to b1 bY
  have N3 := blk_new w1 #[.slice ag (prL zs q bx cy lo hi ps qs rs).length cg] 26 rfl
  have M1 := L1.to bY
  have M2 := L2.to bY
  have HO := Lib.hid (own_below ho bY)
  clear ho bl1 b1 L1 L2 bY
  cases hb : prB zs q bx cy lo hi ps qs rs with
  | false =>
    have HN := Lib.hid (kp_no hb)
    have q2 := M2.cell0 (i := 0) (v := .slice none 0 0) rfl
    have f2 := M2.free 0
    clear hb H1 HO M1 N3
    go_wp2_with fail
    exact bodyPost_ret (v := .tuple #[.agg #[.slice none 0 0], .bool false]) (by simp [results, Tryz.results62, go_sem, q2]) rfl (AnsR.no HN.out.1 HN.out.2 (b2.setCell (p := ⟨w.heap.size + 1 + 1, 0, none⟩) (Nat.le_add_right _ 2) _))
  | true =>
    have HN := Lib.hid (kp_yes hb)
    have m1 := M1.cell0 (i := 0) (v := .slice a n ca) rfl
    have n3 := N3.cell0 (i := 0) rfl
    clear hb
    go_wp2_with fail
    clear m1 n3
    generalize w1.alloc (.cells #[.slice ag (prL zs q bx cy lo hi ps qs rs).length cg] 26) = U at *
    refine (H1.out U _ _ b2 (own_nil HO.out) (own_hs HO.out)).mono ?_
    rintro e w3 ⟨ah, ch, rfl, ho, bl3⟩
    have Q2 := M2.to bl3
    have q2 := Q2.cell0 (i := 0) (v := .slice none 0 0) rfl
    have f2 := Q2.free 0
    have HF := Lib.hid (AnsR.put (p := ⟨w.heap.size + 1 + 1, 0, none⟩) (w := w) (L := kpL zs q bx cy lo hi ps qs rs) (b := kpB zs q bx cy lo hi ps qs rs) ho HN.out.1 HN.out.2 b2 bl3 M2.lt (Nat.le_add_right _ 2))
    clear ho bl3 b2 M1 M2 N3 Q2 HN HO H1
    generalize (metL rs (prL zs q bx cy lo hi ps qs rs)).length = len at *
    generalize metB rs (prL zs q bx cy lo hi ps qs rs) = R at *
    go_wp2_with fail
    exact bodyPost_ret (v := .tuple #[.agg #[.slice ah len ch], .bool R]) (by simp [results, Tryz.results62, go_sem, q2]) rfl HF.out
end Go.Proofs.YtdjjncofahnaaaaGreat
