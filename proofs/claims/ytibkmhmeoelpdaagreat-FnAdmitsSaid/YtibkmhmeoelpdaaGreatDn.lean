/- KeptRegion, RoundsOf and CanBeKept of the program and of the model, over the translation. -/
import Derived.Test.YtibkmhmeoelpdaaGreatDt
import Derived.Test.YtibkmhmeoelpdaaGreatWm
namespace Go.Proofs.YtibkmhmeoelpdaaGreat
open Go.RowKit
open Geo (H3)

/-- the rounds stop within MaxRounds; with which region, and after how many -/
noncomputable def kgB (zs : List Int) (q bx cy lo hi : Int) (ps qs : List H3) : Bool := rrB zs q bx cy lo hi ps qs 12 && rrS zs q bx cy lo hi ps qs 12
noncomputable def kgL (zs : List Int) (q bx cy lo hi : Int) (ps qs : List H3) : List H3 := if kgB zs q bx cy lo hi ps qs = true then rrL zs q bx cy lo hi ps qs 12 else []
noncomputable def kgM (zs : List Int) (q bx cy lo hi : Int) (ps qs : List H3) : Nat := if kgB zs q bx cy lo hi ps qs = true then rrN zs q bx cy lo hi ps qs 12 else 0
noncomputable def kgN (zs : List Int) (q bx cy lo hi : Int) (ps qs : List H3) : Int := if kgB zs q bx cy lo hi ps qs = true then (rrN zs q bx cy lo hi ps qs 12 : Int) else -1
noncomputable def ckB (zs : List Int) (q bx cy lo hi : Int) (ps qs : List H3) (x y d : Int) : Bool := kgB zs q bx cy lo hi ps qs && hasB (kgL zs q bx cy lo hi ps qs) x y d
section
variable {zs : List Int} {q bx cy lo hi : Int} {ps qs : List H3}
theorem kg_no (h : kgB zs q bx cy lo hi ps qs = false) : kgL zs q bx cy lo hi ps qs = [] ∧ kgM zs q bx cy lo hi ps qs = 0 ∧ kgN zs q bx cy lo hi ps qs = -1 ∧ kgB zs q bx cy lo hi ps qs = false := by
  unfold kgL kgM kgN
  rw [h]
  exact ⟨rfl, rfl, rfl, rfl⟩
theorem kg_yes (h : kgB zs q bx cy lo hi ps qs = true) : kgL zs q bx cy lo hi ps qs = rrL zs q bx cy lo hi ps qs 12 ∧ kgM zs q bx cy lo hi ps qs = rrN zs q bx cy lo hi ps qs 12 ∧ kgN zs q bx cy lo hi ps qs = (rrN zs q bx cy lo hi ps qs 12 : Int) ∧ kgB zs q bx cy lo hi ps qs = true := by
  unfold kgL kgM kgN
  rw [h]
  exact ⟨rfl, rfl, rfl, rfl⟩
theorem kg_1 (h : rrB zs q bx cy lo hi ps qs 12 = false) : kgB zs q bx cy lo hi ps qs = false := by unfold kgB; rw [h]; rfl
theorem kg_2 (h : rrS zs q bx cy lo hi ps qs 12 = false) : kgB zs q bx cy lo hi ps qs = false := by unfold kgB; rw [h]; simp
theorem kg_3 (h : rrB zs q bx cy lo hi ps qs 12 = true) (k : rrS zs q bx cy lo hi ps qs 12 = true) : kgB zs q bx cy lo hi ps qs = true := by unfold kgB; rw [h, k]; rfl
theorem kgL_len : (kgL zs q bx cy lo hi ps qs).length ≤ 40 ∧ ∀ x ∈ kgL zs q bx cy lo hi ps qs, In64 x := by
  unfold kgL
  split
  · exact ⟨(rr_len 12).1, (rr_len 12).2.1⟩
  · exact ⟨by simp, by simp⟩
end
set_option maxRecDepth 100000 in
set_option maxHeartbeats 1600000 in
theorem impl_st (am : Option Addr) (nm cm : Nat) (zs : List Int) (q bx cy lo hi : Int) (an : Option Addr) (nn cn : Nat) (ps : List H3) (al : Option Addr) (nl cl : Nat) (qs : List H3) (w : World) (hA : RAt w am nm zs an nn ps al nl qs) (h64 : R64 q bx cy lo hi ps qs) (hle : nm + nn + nl ≤ 1048576) :
    Calls Tryz.prog 81 #[.agg #[.slice am nm cm, .int .i64 q, .int .i64 bx, .int .i64 cy, .int .i64 lo, .int .i64 hi, .slice an nn cn, .slice al nl cl]] w (AnsK w (kgL zs q bx cy lo hi ps qs) (kgM zs q bx cy lo hi ps qs) (kgB zs q bx cy lo hi ps qs) (kgB zs q bx cy lo hi ps qs)) := by
  have bV := below_bx2 (below_one w (.cells #[.slice am nm cm, .int .i64 q, .int .i64 bx, .int .i64 cy, .int .i64 lo, .int .i64 hi, .slice an nn cn, .slice al nl cl] 42)) (.cells #[.slice none 0 0, .int .i64 0, .bool false] 117)
  have K0 := (blk_new w #[.slice am nm cm, .int .i64 q, .int .i64 bx, .int .i64 cy, .int .i64 lo, .int .i64 hi, .slice an nn cn, .slice al nl cl] 42 (b := w.heap.size) (by simp)).to (below_one _ (.cells #[.slice none 0 0, .int .i64 0, .bool false] 117))
  have K1 := blk_new (w.alloc (.cells #[.slice am nm cm, .int .i64 q, .int .i64 bx, .int .i64 cy, .int .i64 lo, .int .i64 hi, .slice an nn cn, .slice al nl cl] 42)) #[.slice none 0 0, .int .i64 0, .bool false] 117 (b := w.heap.size + 1) (by simp)
  have HC := Lib.hid (fun V (h : Below w.heap.size w V) => impl_rr am nm cm zs q bx cy lo hi an nn cn ps al nl cl qs 12 (by omega) V (hA.below h) h64 hle)
  clear hA h64 hle
  have c0_0 := K0.c8_0
  have c0_1 := K0.c8_1
  have c0_2 := K0.c8_2
  have c0_3 := K0.c8_3
  have c0_4 := K0.c8_4
  have c0_5 := K0.c8_5
  have c0_6 := K0.c8_6
  have c0_7 := K0.c8_7
  go_enter Tryz.func81, Tryz.ntmps81
  go_wp2_with fail
  clear c0_0 c0_1 c0_2 c0_3 c0_4 c0_5 c0_6 c0_7
  have zV : w.heap.size + 1 + 1 ≤ (((w.alloc (.cells #[.slice am nm cm, .int .i64 q, .int .i64 bx, .int .i64 cy, .int .i64 lo, .int .i64 hi, .slice an nn cn, .slice al nl cl] 42)).alloc (.cells #[.slice none 0 0, .int .i64 0, .bool false] 117))).heap.size := by simp
  generalize ((w.alloc (.cells #[.slice am nm cm, .int .i64 q, .int .i64 bx, .int .i64 cy, .int .i64 lo, .int .i64 hi, .slice an nn cn, .slice al nl cl] 42)).alloc (.cells #[.slice none 0 0, .int .i64 0, .bool false] 117)) = V at *
  refine (HC.out _ bV).mono ?_
  rintro e w1 ⟨ag, cg, rfl, ho, bl1⟩
  have b1 := below_to bV bl1
  have L1 := K1.to bl1
  have z1 := bl1.size
  clear HC
  generalize hb : rrB zs q bx cy lo hi ps qs 12 = bb at *
  generalize hS : rrS zs q bx cy lo hi ps qs 12 = sS at *
  have bY := below_one w1 (.cells #[.slice ag ((rrL zs q bx cy lo hi ps qs 12)).length cg, .int .i64 ((rrN zs q bx cy lo hi ps qs 12) : Int), .bool sS] 117)
  have b2 := below_to b1 bY
  have N3 := blk_new w1 #[.slice ag ((rrL zs q bx cy lo hi ps qs 12)).length cg, .int .i64 ((rrN zs q bx cy lo hi ps qs 12) : Int), .bool sS] 117 rfl
  have HO := Lib.hid (own_below ho bY)
  have M1 := L1.to bY
  clear ho b1 bY bV L1 K1 bl1 K0
  cases bb with
  | false =>
    have q0 := M1.cell0 (i := 0) (v := .slice none 0 0) rfl
    have q1 := M1.cell0 (i := 1) (v := .int .i64 0) rfl
    have q2 := M1.cell0 (i := 2) (v := .bool false) rfl
    have f0 := M1.free 0
    have f1 := M1.free 1
    have f2 := M1.free 2
    have HN := Lib.hid (kg_no (kg_1 hb))
    clear HO N3 M1
    go_wp2_with fail
    exact bodyPost_ret (v := .tuple #[.agg #[.slice none 0 0, .int .i64 0, .bool false], .bool false]) (by simp [results, Tryz.results81, go_sem, q0, q1, q2]) rfl (AnsK.no ⟨HN.out.1, HN.out.2.1, HN.out.2.2.2, HN.out.2.2.2⟩ (((b2.setCell (p := ⟨w.heap.size + 1, 0, none⟩) (Nat.le_add_right _ _) _).setCell (p := ⟨w.heap.size + 1, 1, none⟩) (Nat.le_add_right _ _) _).setCell (p := ⟨w.heap.size + 1, 2, none⟩) (Nat.le_add_right _ _) _))
  | true =>
    cases sS with
    | false =>
      have n2 := N3.cell0 (i := 2) rfl
      have q0 := M1.cell0 (i := 0) (v := .slice none 0 0) rfl
      have q1 := M1.cell0 (i := 1) (v := .int .i64 0) rfl
      have q2 := M1.cell0 (i := 2) (v := .bool false) rfl
      have f0 := M1.free 0
      have f1 := M1.free 1
      have f2 := M1.free 2
      have HN := Lib.hid (kg_no (kg_2 hS))
      clear HO N3 M1
      go_wp2_with fail
      exact bodyPost_ret (v := .tuple #[.agg #[.slice none 0 0, .int .i64 0, .bool false], .bool false]) (by simp [results, Tryz.results81, go_sem, q0, q1, q2]) rfl (AnsK.no ⟨HN.out.1, HN.out.2.1, HN.out.2.2.2, HN.out.2.2.2⟩ (((b2.setCell (p := ⟨w.heap.size + 1, 0, none⟩) (Nat.le_add_right _ _) _).setCell (p := ⟨w.heap.size + 1, 1, none⟩) (Nat.le_add_right _ _) _).setCell (p := ⟨w.heap.size + 1, 2, none⟩) (Nat.le_add_right _ _) _))
    | true =>
      have n0 := N3.cell0 (i := 0) rfl
      have n1 := N3.cell0 (i := 1) rfl
      have n2 := N3.cell0 (i := 2) rfl
      have q0 := M1.cell0 (i := 0) (v := .slice none 0 0) rfl
      have q1 := M1.cell0 (i := 1) (v := .int .i64 0) rfl
      have q2 := M1.cell0 (i := 2) (v := .bool false) rfl
      have f0 := M1.free 0
      have f1 := M1.free 1
      have f2 := M1.free 2
      have HN := Lib.hid (kg_yes (kg_3 hb hS))
      have zV1 := zV
      have HF := Lib.hid (AnsK.yes (w := w) ⟨HN.out.1, HN.out.2.1, HN.out.2.2.2, HN.out.2.2.2⟩ (own_base (own_far (p := ⟨w.heap.size + 1, 2, none⟩) (own_far (p := ⟨w.heap.size + 1, 1, none⟩) (own_far (p := ⟨w.heap.size + 1, 0, none⟩) (own_base HO.out zV1) (by simp) (.slice ag ((rrL zs q bx cy lo hi ps qs 12)).length cg)) (by simp) (.int .i64 ((rrN zs q bx cy lo hi ps qs 12) : Int))) (by simp) (.bool true)) (by omega)) (((b2.setCell (p := ⟨w.heap.size + 1, 0, none⟩) (Nat.le_add_right _ _) (.slice ag ((rrL zs q bx cy lo hi ps qs 12)).length cg)).setCell (p := ⟨w.heap.size + 1, 1, none⟩) (Nat.le_add_right _ _) (.int .i64 ((rrN zs q bx cy lo hi ps qs 12) : Int))).setCell (p := ⟨w.heap.size + 1, 2, none⟩) (Nat.le_add_right _ _) (.bool true)))
      clear HO N3 M1
      go_wp2_with fail
      exact bodyPost_ret (v := .tuple #[.agg #[.slice ag ((rrL zs q bx cy lo hi ps qs 12)).length cg, .int .i64 ((rrN zs q bx cy lo hi ps qs 12) : Int), .bool true], .bool true]) (by simp [results, Tryz.results81, go_sem, q0, q1, q2]) rfl HF.out
set_option maxRecDepth 100000 in
set_option maxHeartbeats 1600000 in
theorem impl_kr (am : Option Addr) (nm cm : Nat) (zs : List Int) (q bx cy lo hi : Int) (an : Option Addr) (nn cn : Nat) (ps : List H3) (al : Option Addr) (nl cl : Nat) (qs : List H3) (w : World) (hA : RAt w am nm zs an nn ps al nl qs) (h64 : R64 q bx cy lo hi ps qs) (hle : nm + nn + nl ≤ 1048576) :
    Calls Tryz.prog 36 #[.agg #[.slice am nm cm, .int .i64 q, .int .i64 bx, .int .i64 cy, .int .i64 lo, .int .i64 hi, .slice an nn cn, .slice al nl cl]] w (AnsR w (kgL zs q bx cy lo hi ps qs) (kgB zs q bx cy lo hi ps qs)) := by
  have bV := below_bx2 (below_one w (.cells #[.slice am nm cm, .int .i64 q, .int .i64 bx, .int .i64 cy, .int .i64 lo, .int .i64 hi, .slice an nn cn, .slice al nl cl] 42)) (.cells #[.slice none 0 0] 40)
  have K0 := (blk_new w #[.slice am nm cm, .int .i64 q, .int .i64 bx, .int .i64 cy, .int .i64 lo, .int .i64 hi, .slice an nn cn, .slice al nl cl] 42 (b := w.heap.size) (by simp)).to (below_one _ (.cells #[.slice none 0 0] 40))
  have K1 := blk_new (w.alloc (.cells #[.slice am nm cm, .int .i64 q, .int .i64 bx, .int .i64 cy, .int .i64 lo, .int .i64 hi, .slice an nn cn, .slice al nl cl] 42)) #[.slice none 0 0] 40 (b := w.heap.size + 1) (by simp)
  have HC := Lib.hid (fun V (h : Below w.heap.size w V) => impl_st am nm cm zs q bx cy lo hi an nn cn ps al nl cl qs V (hA.below h) h64 hle)
  clear hA h64 hle
  have c0_0 := K0.c8_0
  have c0_1 := K0.c8_1
  have c0_2 := K0.c8_2
  have c0_3 := K0.c8_3
  have c0_4 := K0.c8_4
  have c0_5 := K0.c8_5
  have c0_6 := K0.c8_6
  have c0_7 := K0.c8_7
  go_enter Tryz.func36, Tryz.ntmps36
  go_wp2_with fail
  clear c0_0 c0_1 c0_2 c0_3 c0_4 c0_5 c0_6 c0_7
  have zV : w.heap.size + 1 + 1 ≤ (((w.alloc (.cells #[.slice am nm cm, .int .i64 q, .int .i64 bx, .int .i64 cy, .int .i64 lo, .int .i64 hi, .slice an nn cn, .slice al nl cl] 42)).alloc (.cells #[.slice none 0 0] 40))).heap.size := by simp
  generalize ((w.alloc (.cells #[.slice am nm cm, .int .i64 q, .int .i64 bx, .int .i64 cy, .int .i64 lo, .int .i64 hi, .slice an nn cn, .slice al nl cl] 42)).alloc (.cells #[.slice none 0 0] 40)) = V at *
  refine (HC.out _ bV).mono ?_
  rintro e w1 ⟨ag, cg, rfl, ho, bl1⟩
  have b1 := below_to bV bl1
  have L1 := K1.to bl1
  have z1 := bl1.size
  clear HC
  generalize hb : kgB zs q bx cy lo hi ps qs = bb at *
  have bY := below_one w1 (.cells #[.slice ag ((kgL zs q bx cy lo hi ps qs)).length cg, .int .i64 ((kgM zs q bx cy lo hi ps qs) : Int), .bool bb] 117)
  have b2 := below_to b1 bY
  have N3 := blk_new w1 #[.slice ag ((kgL zs q bx cy lo hi ps qs)).length cg, .int .i64 ((kgM zs q bx cy lo hi ps qs) : Int), .bool bb] 117 rfl
  have HO := Lib.hid (own_below ho bY)
  have M1 := L1.to bY
  clear ho b1 bY bV L1 K1 bl1 K0
  have n0 := N3.cell0 (i := 0) rfl
  have q0 := M1.cell0 (i := 0) (v := .slice none 0 0) rfl
  have f0 := M1.free 0
  have HF := Lib.hid (AnsR.yes (w := w) (L := kgL zs q bx cy lo hi ps qs) (b := bb) rfl rfl (own_base (own_far (p := ⟨w.heap.size + 1, 0, none⟩) (own_base HO.out zV) (by simp) (.slice ag ((kgL zs q bx cy lo hi ps qs)).length cg)) (by omega)) (b2.setCell (p := ⟨w.heap.size + 1, 0, none⟩) (Nat.le_add_right _ _) (.slice ag ((kgL zs q bx cy lo hi ps qs)).length cg)))
  clear HO N3 M1
  go_wp2_with fail
  exact bodyPost_ret (v := .tuple #[.agg #[.slice ag ((kgL zs q bx cy lo hi ps qs)).length cg], .bool bb]) (by simp [results, Tryz.results36, go_sem, q0]) rfl HF.out
set_option maxRecDepth 100000 in
set_option maxHeartbeats 1600000 in
theorem impl_ck (am : Option Addr) (nm cm : Nat) (zs : List Int) (q bx cy lo hi : Int) (an : Option Addr) (nn cn : Nat) (ps : List H3) (al : Option Addr) (nl cl : Nat) (qs : List H3) (sX sY sD : Int) (hS : In64 ⟨sX, sY, sD⟩) (w : World) (hA : RAt w am nm zs an nn ps al nl qs) (h64 : R64 q bx cy lo hi ps qs) (hle : nm + nn + nl ≤ 1048576) :
    Calls Tryz.prog 37 #[.agg #[.slice am nm cm, .int .i64 q, .int .i64 bx, .int .i64 cy, .int .i64 lo, .int .i64 hi, .slice an nn cn, .slice al nl cl], .agg #[.int .i64 sX, .int .i64 sY, .int .i64 sD]] w fun e w' => e = .returned (.bool (ckB zs q bx cy lo hi ps qs sX sY sD)) ∧ Below w.heap.size w w' := by
  have bV := below_bx2 (below_one w (.cells #[.slice am nm cm, .int .i64 q, .int .i64 bx, .int .i64 cy, .int .i64 lo, .int .i64 hi, .slice an nn cn, .slice al nl cl] 42)) (.cells #[.int .i64 sX, .int .i64 sY, .int .i64 sD] 45)
  have K0 := (blk_new w #[.slice am nm cm, .int .i64 q, .int .i64 bx, .int .i64 cy, .int .i64 lo, .int .i64 hi, .slice an nn cn, .slice al nl cl] 42 (b := w.heap.size) (by simp)).to (below_one _ (.cells #[.int .i64 sX, .int .i64 sY, .int .i64 sD] 45))
  have K1 := blk_new (w.alloc (.cells #[.slice am nm cm, .int .i64 q, .int .i64 bx, .int .i64 cy, .int .i64 lo, .int .i64 hi, .slice an nn cn, .slice al nl cl] 42)) #[.int .i64 sX, .int .i64 sY, .int .i64 sD] 45 (b := w.heap.size + 1) (by simp)
  have HC := Lib.hid (fun V (h : Below w.heap.size w V) => impl_kr am nm cm zs q bx cy lo hi an nn cn ps al nl cl qs V (hA.below h) h64 hle)
  have HH := Lib.hid (fun V a1 c1 (k0 : a1 = none → (kgL zs q bx cy lo hi ps qs).length = 0 ∧ c1 = 0) (k : HsAt V a1 (kgL zs q bx cy lo hi ps qs)) => impl_has a1 (kgL zs q bx cy lo hi ps qs).length c1 (kgL zs q bx cy lo hi ps qs) sX sY sD V rfl (Nat.le_trans kgL_len.1 (by omega)) kgL_len.2 hS k)
  clear hA h64 hle hS
  have c0_0 := K0.c8_0
  have c0_1 := K0.c8_1
  have c0_2 := K0.c8_2
  have c0_3 := K0.c8_3
  have c0_4 := K0.c8_4
  have c0_5 := K0.c8_5
  have c0_6 := K0.c8_6
  have c0_7 := K0.c8_7
  go_enter Tryz.func37, Tryz.ntmps37
  go_wp2_with fail
  clear c0_0 c0_1 c0_2 c0_3 c0_4 c0_5 c0_6 c0_7
  generalize ((w.alloc (.cells #[.slice am nm cm, .int .i64 q, .int .i64 bx, .int .i64 cy, .int .i64 lo, .int .i64 hi, .slice an nn cn, .slice al nl cl] 42)).alloc (.cells #[.int .i64 sX, .int .i64 sY, .int .i64 sD] 45)) = V at *
  refine (HC.out _ bV).mono ?_
  rintro e w1 ⟨ag, cg, rfl, ho, bl1⟩
  have b1 := below_to bV bl1
  have L1 := K1.to bl1
  have bY := below_one w1 (.cells #[.slice ag (kgL zs q bx cy lo hi ps qs).length cg] 40)
  have b2 := below_to b1 bY
  have N3 := blk_new w1 #[.slice ag (kgL zs q bx cy lo hi ps qs).length cg] 40 rfl
  have HO := Lib.hid (own_below ho bY)
  have M1 := L1.to bY
  clear ho b1 bY bV L1 K1 bl1 K0 HC
  cases hb : kgB zs q bx cy lo hi ps qs with
  | false =>
    have HN : ckB zs q bx cy lo hi ps qs sX sY sD = false := by unfold ckB; rw [hb]; rfl
    clear HO N3 M1 HH
    go_wp2_with fail
    go_ret
    exact ⟨ret_bool HN.symm, b2⟩
  | true =>
    have HN : ckB zs q bx cy lo hi ps qs sX sY sD = hasB (kgL zs q bx cy lo hi ps qs) sX sY sD := by unfold ckB; rw [hb]; rfl
    have HNN := Lib.hid HN
    clear HN hb
    have n0 := N3.cell0 (i := 0) rfl
    have m0 := M1.cell0 (i := 0) (v := .int .i64 sX) rfl
    have m1 := M1.cell0 (i := 1) (v := .int .i64 sY) rfl
    have m2 := M1.cell0 (i := 2) (v := .int .i64 sD) rfl
    go_wp2_with fail
    generalize w1.alloc (.cells #[.slice ag (kgL zs q bx cy lo hi ps qs).length cg] 40) = U at *
    refine (HH.out U _ _ (own_nil HO.out) (own_hs HO.out)).mono ?_
    rintro e w3 ⟨rfl, bl3⟩
    have b3 := below_to b2 bl3
    clear n0 m0 m1 m2 N3 M1 HO HH
    go_wp2_with fail
    go_ret
    exact ⟨ret_bool HNN.out.symm, b3⟩
end Go.Proofs.YtibkmhmeoelpdaaGreat
