/- IsKept of the program and of the model, over the translation. -/
import Derived.Test.YtdjjncofahnaaaaGreatVf
import Derived.Test.YtdjjncofahnaaaaGreatWk
namespace Go.Proofs.YtdjjncofahnaaaaGreat
open Go.RowKit
open Geo (H3)

set_option maxRecDepth 100000 in
set_option maxHeartbeats 1600000 in
theorem impl_ik (am : Option Addr) (nm cm : Nat) (zs : List Int) (q bx cy lo hi : Int) (an : Option Addr) (nn cn : Nat) (ps : List H3) (al : Option Addr) (nl cl : Nat) (qs : List H3) (a : Option Addr) (n ca : Nat) (rs : List H3) (w : World) (hA : RAt w am nm zs an nn ps al nl qs) (h64 : R64 q bx cy lo hi ps qs) (hle : nm + nn + nl ≤ 1048576) (hl : rs.length = n) (hn : n ≤ 1048576) (hr64 : ∀ h ∈ rs, In64 h) (hz : a = none → n = 0 ∧ ca = 0) (hG : HsAt w a rs) :
    Calls Tryz.prog 15 #[.agg #[.slice am nm cm, .int .i64 q, .int .i64 bx, .int .i64 cy, .int .i64 lo, .int .i64 hi, .slice an nn cn, .slice al nl cl], .agg #[.slice a n ca]] w fun e w' => e = .returned (.bool (ikB zs q bx cy lo hi ps qs rs)) ∧ Below w.heap.size w w' := by
  have bV := below_bx2 (below_one w (.cells #[.slice am nm cm, .int .i64 q, .int .i64 bx, .int .i64 cy, .int .i64 lo, .int .i64 hi, .slice an nn cn, .slice al nl cl] 28)) (.cells #[.slice a n ca] 26)
  have K0 := (blk_new w #[.slice am nm cm, .int .i64 q, .int .i64 bx, .int .i64 cy, .int .i64 lo, .int .i64 hi, .slice an nn cn, .slice al nl cl] 28 (b := w.heap.size) (by simp)).to (below_one _ (.cells #[.slice a n ca] 26))
  have K1 := blk_new (w.alloc (.cells #[.slice am nm cm, .int .i64 q, .int .i64 bx, .int .i64 cy, .int .i64 lo, .int .i64 hi, .slice an nn cn, .slice al nl cl] 28)) #[.slice a n ca] 26 (b := w.heap.size + 1) (by simp)
  have HE := Lib.hid (fun V (h : Below w.heap.size w V) => impl_pr am nm cm zs q bx cy lo hi an nn cn ps al nl cl qs a n ca rs V (hA.below h) h64 hle hl hn hr64 hz (hG.below h))
  have H1 := Lib.hid (fun V (h : Below w.heap.size w V) => impl_wi a al n nl ca cl rs qs V hl hA.ll hn (by omega) hr64 h64.qs (hG.below h) (hA.hl.below h))
  have H2 := Lib.hid (fun V a1 c1 (h : Below w.heap.size w V) (k : HsAt V a1 (prL zs q bx cy lo hi ps qs rs)) => impl_wi a a1 n (prL zs q bx cy lo hi ps qs rs).length ca c1 rs (prL zs q bx cy lo hi ps qs rs) V hl rfl hn (Nat.le_trans (prL_len _ _ _ _ _ _ _ _ _) (by omega)) hr64 (prL_64 _ _ _ _ _ _ _ _ _) (hG.below h) k)
  clear hA h64 hl hn hr64 hz hG
  have c0_0 := K0.c8_0
  have c0_1 := K0.c8_1
  have c0_2 := K0.c8_2
  have c0_3 := K0.c8_3
  have c0_4 := K0.c8_4
  have c0_5 := K0.c8_5
  have c0_6 := K0.c8_6
  have c0_7 := K0.c8_7
  have c1_0 := K1.cell0 (i := 0) (v := .slice a n ca) rfl
  go_enter Tryz.func15, Tryz.ntmps15
  go_wp2_with fail
  clear c0_0 c0_1 c0_2 c0_3 c0_4 c0_5 c0_6 c0_7 c1_0
  generalize ((w.alloc (.cells #[.slice am nm cm, .int .i64 q, .int .i64 bx, .int .i64 cy, .int .i64 lo, .int .i64 hi, .slice an nn cn, .slice al nl cl] 28)).alloc (.cells #[.slice a n ca] 26)) = V at *
  refine (HE.out _ bV).mono ?_
  rintro e w1 ⟨ag, cg, rfl, ho, bl1⟩
  have b1 := below_to bV bl1
  have L0 := K0.to bl1
  have L1 := K1.to bl1
  have bY := below_one w1 (.cells #[.slice ag (prL zs q bx cy lo hi ps qs rs).length cg] 26)
  have b2 := below_to b1 bY
  have N3 := blk_new w1 #[.slice ag (prL zs q bx cy lo hi ps qs rs).length cg] 26 rfl
  have M0 := L0.to bY
  have M1 := L1.to bY
  have HO := Lib.hid (own_below ho bY)
  clear ho bl1 b1 L0 L1 bY bV K0 K1 HE
  cases hb : prB zs q bx cy lo hi ps qs rs with
  | false =>
    have HN := Lib.hid (show ikB zs q bx cy lo hi ps qs rs = false by unfold ikB; rw [hb]; rfl)
    clear hb H1 H2 HO M0 M1 N3
    go_wp2
    go_ret
    exact ⟨ret_bool HN.out.symm, b2⟩
  | true =>
    have k7 := M0.c8_7
    have k1 := M1.cell0 (i := 0) (v := .slice a n ca) rfl
    have HK := Lib.hid (show ikB zs q bx cy lo hi ps qs rs = (wiB rs qs && wiB rs (prL zs q bx cy lo hi ps qs rs)) by unfold ikB; rw [hb, Bool.true_and])
    clear hb
    go_wp2_with fail
    clear k7 k1
    generalize w1.alloc (.cells #[.slice ag (prL zs q bx cy lo hi ps qs rs).length cg] 26) = U at *
    refine (H1.out U b2).mono ?_
    rintro e w3 ⟨rfl, bl3⟩
    have b3 := below_to b2 bl3
    have Q1 := M1.to bl3
    have Q3 := N3.to bl3
    have HO3 := Lib.hid (own_below HO.out bl3)
    clear bl3 b2 M0 M1 N3 HO H1
    cases hw : wiB rs qs with
    | false =>
      have HN := Lib.hid (show ikB zs q bx cy lo hi ps qs rs = false by rw [HK.out, hw]; rfl)
      clear hw H2 HO3 Q1 Q3 HK
      go_wp2
      go_ret
      exact ⟨ret_bool HN.out.symm, b3⟩
    | true =>
      have HN := Lib.hid (show ikB zs q bx cy lo hi ps qs rs = wiB rs (prL zs q bx cy lo hi ps qs rs) by rw [HK.out, hw, Bool.true_and])
      clear hw HK
      have k1 := Q1.cell0 (i := 0) (v := .slice a n ca) rfl
      have k3 := Q3.cell0 (i := 0) rfl
      go_wp2_with fail
      clear k1 k3
      refine (H2.out w3 _ _ b3 (own_hs HO3.out)).mono ?_
      rintro e w4 ⟨rfl, bl4⟩
      have b4 := below_to b3 bl4
      clear bl4 b3 Q1 Q3 HO3 H2
      go_wp2
      go_ret
      exact ⟨ret_bool HN.out.symm, b4⟩
end Go.Proofs.YtdjjncofahnaaaaGreat
