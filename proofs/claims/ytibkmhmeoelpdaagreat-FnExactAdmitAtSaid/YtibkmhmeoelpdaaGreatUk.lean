/- AdmitAt of the program, over the translation. -/
import Derived.Test.YtibkmhmeoelpdaaGreatUj
import Derived.Test.YtibkmhmeoelpdaaGreatVd
import Derived.Test.YtibkmhmeoelpdaaGreatKf
namespace Go.Proofs.YtibkmhmeoelpdaaGreat
open Go.RowKit
open Geo (H3)

/-- AdmitAt: whether its arguments leave a region to lead into, the bounds, and the answer -/
noncomputable def adtG (zs : List Int) (q bx cy lo hi : Int) (ps qs : List H3) (sX sY sD : Int) (rs : List H3) : Bool := okS sX sY sD && decide (sD ≤ 100000) && rpB zs q bx cy lo hi ps qs rs && !(((rpL zs q bx cy lo hi ps qs rs).length : Int) == 0)
noncomputable def adtS (zs : List Int) (q bx cy lo hi : Int) (ps qs : List H3) (sX sY sD : Int) (rs : List H3) : Adm := admL bx cy lo hi (zg zs 0 * sX + zg zs 1 * sY) (zg zs 2 * sX + zg zs 3 * sY) (q * sD) (rpL zs q bx cy lo hi ps qs rs)
noncomputable def adtB (zs : List Int) (q bx cy lo hi : Int) (ps qs : List H3) (sX sY sD : Int) (rs : List H3) : Bool := adtG zs q bx cy lo hi ps qs sX sY sD rs && atB (adtS zs q bx cy lo hi ps qs sX sY sD rs)
noncomputable def adtN (zs : List Int) (q bx cy lo hi : Int) (ps qs : List H3) (sX sY sD : Int) (rs : List H3) (x : Int) : Int := if adtG zs q bx cy lo hi ps qs sX sY sD rs = true then atV (adtS zs q bx cy lo hi ps qs sX sY sD rs) x else 0
theorem adt_no {zs : List Int} {q bx cy lo hi : Int} {ps qs : List H3} {sX sY sD : Int} {rs : List H3} (h : adtG zs q bx cy lo hi ps qs sX sY sD rs = false) : adtN zs q bx cy lo hi ps qs sX sY sD rs (adtS zs q bx cy lo hi ps qs sX sY sD rs).lN = 0 ∧ adtN zs q bx cy lo hi ps qs sX sY sD rs (adtS zs q bx cy lo hi ps qs sX sY sD rs).lD = 0 ∧ adtN zs q bx cy lo hi ps qs sX sY sD rs (adtS zs q bx cy lo hi ps qs sX sY sD rs).hN = 0 ∧ adtN zs q bx cy lo hi ps qs sX sY sD rs (adtS zs q bx cy lo hi ps qs sX sY sD rs).hD = 0 ∧ adtB zs q bx cy lo hi ps qs sX sY sD rs = false := by
  unfold adtN adtB
  rw [h]
  exact ⟨rfl, rfl, rfl, rfl, rfl⟩
theorem adt_yes {zs : List Int} {q bx cy lo hi : Int} {ps qs : List H3} {sX sY sD : Int} {rs : List H3} (h : adtG zs q bx cy lo hi ps qs sX sY sD rs = true) : adtN zs q bx cy lo hi ps qs sX sY sD rs (adtS zs q bx cy lo hi ps qs sX sY sD rs).lN = atV (adtS zs q bx cy lo hi ps qs sX sY sD rs) (adtS zs q bx cy lo hi ps qs sX sY sD rs).lN ∧ adtN zs q bx cy lo hi ps qs sX sY sD rs (adtS zs q bx cy lo hi ps qs sX sY sD rs).lD = atV (adtS zs q bx cy lo hi ps qs sX sY sD rs) (adtS zs q bx cy lo hi ps qs sX sY sD rs).lD ∧ adtN zs q bx cy lo hi ps qs sX sY sD rs (adtS zs q bx cy lo hi ps qs sX sY sD rs).hN = atV (adtS zs q bx cy lo hi ps qs sX sY sD rs) (adtS zs q bx cy lo hi ps qs sX sY sD rs).hN ∧ adtN zs q bx cy lo hi ps qs sX sY sD rs (adtS zs q bx cy lo hi ps qs sX sY sD rs).hD = atV (adtS zs q bx cy lo hi ps qs sX sY sD rs) (adtS zs q bx cy lo hi ps qs sX sY sD rs).hD ∧ adtB zs q bx cy lo hi ps qs sX sY sD rs = atB (adtS zs q bx cy lo hi ps qs sX sY sD rs) := by
  unfold adtN adtB
  rw [h]
  exact ⟨rfl, rfl, rfl, rfl, rfl⟩
theorem ero_all {rs ws : List H3} (b : eroB rs ws = true) : (∀ e ∈ eroL rs ws, okB e = true) ∧ (eroL rs ws).length ≤ 40 := by
  unfold eroB at b
  simp only [Bool.and_eq_true, decide_eq_true_eq] at b
  obtain ⟨⟨⟨rp, rw'⟩, nw⟩, mp⟩ := b
  rw [(ero_yes rp rw' nw).1]
  by_cases np : rs = []
  · rw [(mv_nil np).1]
    exact ⟨by simp, by simp⟩
  · obtain ⟨_, ep, okp, lp⟩ := mv_facts np mp
    rw [ep]
    exact ⟨fun e he => regL_ok okp e he, lp⟩
theorem adt_rok {rs ps qs : List H3} {zs : List Int} {q bx cy lo hi : Int} (h : rokB rs = false) : rpB zs q bx cy lo hi ps qs rs = false := by
  unfold rpB
  rw [(ero_no (.inl h)).2, Bool.and_false]
theorem impl_intoA (am : Option Addr) (nm cm : Nat) (zs : List Int) (q bx cy lo hi : Int) (an : Option Addr) (nn cn : Nat) (ps : List H3) (al : Option Addr) (nl cl : Nat) (qs : List H3) (ag : Option Addr) (n ca : Nat) (rs : List H3) (sX sY sD : Int) (w : World) (hA : RAt w am nm zs an nn ps al nl qs) (rp : rpB zs q bx cy lo hi ps qs rs = true) (hl : (rpL zs q bx cy lo hi ps qs rs).length = n) (hG : HsAt w ag (rpL zs q bx cy lo hi ps qs rs)) (os : okS sX sY sD = true) (hd : sD ≤ 100000) :
    Calls Tryz.prog 49 #[.agg #[.slice am nm cm, .int .i64 q, .int .i64 bx, .int .i64 cy, .int .i64 lo, .int .i64 hi, .slice an nn cn, .slice al nl cl], .agg #[.slice ag n ca], .agg #[.int .i64 sX, .int .i64 sY, .int .i64 sD]] w fun e w' => e = .returned (.tuple #[.agg #[.int .i64 (atV (adtS zs q bx cy lo hi ps qs sX sY sD rs) (adtS zs q bx cy lo hi ps qs sX sY sD rs).lN), .int .i64 (atV (adtS zs q bx cy lo hi ps qs sX sY sD rs) (adtS zs q bx cy lo hi ps qs sX sY sD rs).lD), .int .i64 (atV (adtS zs q bx cy lo hi ps qs sX sY sD rs) (adtS zs q bx cy lo hi ps qs sX sY sD rs).hN), .int .i64 (atV (adtS zs q bx cy lo hi ps qs sX sY sD rs) (adtS zs q bx cy lo hi ps qs sX sY sD rs).hD)], .bool (atB (adtS zs q bx cy lo hi ps qs sX sY sD rs))]) ∧ Below w.heap.size w w' := by
  have rp2 := rp
  unfold rpB at rp2
  rw [Bool.and_eq_true] at rp2
  obtain ⟨hlo, hhi, hm, hx, hy, _⟩ := rm_rng rp2.1
  have e : rpL zs q bx cy lo hi ps qs rs = eroL rs ps := (rp_yes rp2.1).1
  obtain ⟨ok, l40⟩ := ero_all rp2.2
  rw [← e] at ok l40
  obtain ⟨z0, z1, z2, z3, rfl, _⟩ := map_four hm
  exact impl_into am nm cm z0 z1 z2 z3 q bx cy lo hi an nn cn al nl cl ag n ca (rpL [z0, z1, z2, z3] q bx cy lo hi ps qs rs) sX sY sD w hA.lm hA.hm hm hx hy hlo (by omega) hl (by omega) hG ok os hd
set_option maxRecDepth 100000 in
set_option maxHeartbeats 2000000 in
theorem impl_adt (am : Option Addr) (nm cm : Nat) (zs : List Int) (q bx cy lo hi : Int) (an : Option Addr) (nn cn : Nat) (ps : List H3) (al : Option Addr) (nl cl : Nat) (qs : List H3) (a : Option Addr) (n ca : Nat) (rs : List H3) (sX sY sD : Int) (hS : In64 ⟨sX, sY, sD⟩) (w : World) (hA : RAt w am nm zs an nn ps al nl qs) (h64 : R64 q bx cy lo hi ps qs) (hle : nm + nn + nl ≤ 1048576) (hl : rs.length = n) (hn : n ≤ 1048576) (hr64 : ∀ h ∈ rs, In64 h) (hz : a = none → n = 0 ∧ ca = 0) (hG : HsAt w a rs) :
    Calls Tryz.prog 13 #[.agg #[.slice am nm cm, .int .i64 q, .int .i64 bx, .int .i64 cy, .int .i64 lo, .int .i64 hi, .slice an nn cn, .slice al nl cl], .agg #[.slice a n ca], .agg #[.int .i64 sX, .int .i64 sY, .int .i64 sD]] w fun e w' => e = .returned (.tuple #[.agg #[.int .i64 (adtN zs q bx cy lo hi ps qs sX sY sD rs (adtS zs q bx cy lo hi ps qs sX sY sD rs).lN), .int .i64 (adtN zs q bx cy lo hi ps qs sX sY sD rs (adtS zs q bx cy lo hi ps qs sX sY sD rs).lD), .int .i64 (adtN zs q bx cy lo hi ps qs sX sY sD rs (adtS zs q bx cy lo hi ps qs sX sY sD rs).hN), .int .i64 (adtN zs q bx cy lo hi ps qs sX sY sD rs (adtS zs q bx cy lo hi ps qs sX sY sD rs).hD)], .bool (adtB zs q bx cy lo hi ps qs sX sY sD rs)]) ∧ Below w.heap.size w w' := by
  have HSO := Lib.hid (fun V => impl_sok sX sY sD V hS.1.1 hS.1.2 hS.2.1.1 hS.2.1.2 hS.2.2.1 hS.2.2.2)
  have HRP := Lib.hid (fun V (h : Below w.heap.size w V) => impl_rp am nm cm zs q bx cy lo hi an nn cn ps al nl cl qs a n ca rs V (hA.below h) h64 hle hl hn hr64 hz (hG.below h))
  have HIN := Lib.hid (fun V ag cg (h : Below w.heap.size w V) (rp : rpB zs q bx cy lo hi ps qs rs = true) (ho : HsAt V ag (rpL zs q bx cy lo hi ps qs rs)) (os : okS sX sY sD = true) (hd : sD ≤ 100000) => impl_intoA am nm cm zs q bx cy lo hi an nn cn ps al nl cl qs ag (rpL zs q bx cy lo hi ps qs rs).length cg rs sX sY sD V (hA.below h) rp rfl ho os hd)
  have HNO := Lib.hid (fun h => adt_no (zs := zs) (q := q) (bx := bx) (cy := cy) (lo := lo) (hi := hi) (ps := ps) (qs := qs) (sX := sX) (sY := sY) (sD := sD) (rs := rs) h)
  have HYE := Lib.hid (fun h => adt_yes (zs := zs) (q := q) (bx := bx) (cy := cy) (lo := lo) (hi := hi) (ps := ps) (qs := qs) (sX := sX) (sY := sY) (sD := sD) (rs := rs) h)
  have HGD := Lib.hid (show adtG zs q bx cy lo hi ps qs sX sY sD rs = (okS sX sY sD && decide (sD ≤ 100000) && rpB zs q bx cy lo hi ps qs rs && !(((rpL zs q bx cy lo hi ps qs rs).length : Int) == 0)) from rfl)
  clear hA h64 hle hl hn hr64 hz hG hS
  generalize adtN zs q bx cy lo hi ps qs sX sY sD rs (adtS zs q bx cy lo hi ps qs sX sY sD rs).lN = d1 at *
  generalize adtN zs q bx cy lo hi ps qs sX sY sD rs (adtS zs q bx cy lo hi ps qs sX sY sD rs).lD = d2 at *
  generalize adtN zs q bx cy lo hi ps qs sX sY sD rs (adtS zs q bx cy lo hi ps qs sX sY sD rs).hN = d3 at *
  generalize adtN zs q bx cy lo hi ps qs sX sY sD rs (adtS zs q bx cy lo hi ps qs sX sY sD rs).hD = d4 at *
  generalize atV (adtS zs q bx cy lo hi ps qs sX sY sD rs) (adtS zs q bx cy lo hi ps qs sX sY sD rs).lN = e1 at *
  generalize atV (adtS zs q bx cy lo hi ps qs sX sY sD rs) (adtS zs q bx cy lo hi ps qs sX sY sD rs).lD = e2 at *
  generalize atV (adtS zs q bx cy lo hi ps qs sX sY sD rs) (adtS zs q bx cy lo hi ps qs sX sY sD rs).hN = e3 at *
  generalize atV (adtS zs q bx cy lo hi ps qs sX sY sD rs) (adtS zs q bx cy lo hi ps qs sX sY sD rs).hD = e4 at *
  generalize adtB zs q bx cy lo hi ps qs sX sY sD rs = R at *
  generalize atB (adtS zs q bx cy lo hi ps qs sX sY sD rs) = Q at *
  have bV := below_bx2 (below_bx2 (below_bx2 (below_one w (.cells #[.slice am nm cm, .int .i64 q, .int .i64 bx, .int .i64 cy, .int .i64 lo, .int .i64 hi, .slice an nn cn, .slice al nl cl] 42)) (.cells #[.slice a n ca] 40)) (.cells #[.int .i64 sX, .int .i64 sY, .int .i64 sD] 45)) (.cells #[.int .i64 0, .int .i64 0, .int .i64 0, .int .i64 0] 35)
  have K0 := (((blk_new w #[.slice am nm cm, .int .i64 q, .int .i64 bx, .int .i64 cy, .int .i64 lo, .int .i64 hi, .slice an nn cn, .slice al nl cl] 42 (b := w.heap.size) (by simp)).to (below_one _ (.cells #[.slice a n ca] 40))).to (below_one _ (.cells #[.int .i64 sX, .int .i64 sY, .int .i64 sD] 45))).to (below_one _ (.cells #[.int .i64 0, .int .i64 0, .int .i64 0, .int .i64 0] 35))
  have K1 := ((blk_new (w.alloc (.cells #[.slice am nm cm, .int .i64 q, .int .i64 bx, .int .i64 cy, .int .i64 lo, .int .i64 hi, .slice an nn cn, .slice al nl cl] 42)) #[.slice a n ca] 40 (b := w.heap.size + 1) (by simp)).to (below_one _ (.cells #[.int .i64 sX, .int .i64 sY, .int .i64 sD] 45))).to (below_one _ (.cells #[.int .i64 0, .int .i64 0, .int .i64 0, .int .i64 0] 35))
  have K2 := (blk_new ((w.alloc (.cells #[.slice am nm cm, .int .i64 q, .int .i64 bx, .int .i64 cy, .int .i64 lo, .int .i64 hi, .slice an nn cn, .slice al nl cl] 42)).alloc (.cells #[.slice a n ca] 40)) #[.int .i64 sX, .int .i64 sY, .int .i64 sD] 45 (b := w.heap.size + 1 + 1) (by simp)).to (below_one _ (.cells #[.int .i64 0, .int .i64 0, .int .i64 0, .int .i64 0] 35))
  have K3 := blk_new (((w.alloc (.cells #[.slice am nm cm, .int .i64 q, .int .i64 bx, .int .i64 cy, .int .i64 lo, .int .i64 hi, .slice an nn cn, .slice al nl cl] 42)).alloc (.cells #[.slice a n ca] 40)).alloc (.cells #[.int .i64 sX, .int .i64 sY, .int .i64 sD] 45)) #[.int .i64 0, .int .i64 0, .int .i64 0, .int .i64 0] 35 (b := w.heap.size + 1 + 1 + 1) (by simp)
  have c0 := K2.cell0 (i := 0) (v := .int .i64 sX) rfl
  have c1 := K2.cell0 (i := 1) (v := .int .i64 sY) rfl
  have c2 := K2.cell0 (i := 2) (v := .int .i64 sD) rfl
  go_enter Tryz.func13, Tryz.ntmps13
  go_wp2_with fail
  clear c0 c1 c2
  generalize ((((w.alloc (.cells #[.slice am nm cm, .int .i64 q, .int .i64 bx, .int .i64 cy, .int .i64 lo, .int .i64 hi, .slice an nn cn, .slice al nl cl] 42)).alloc (.cells #[.slice a n ca] 40)).alloc (.cells #[.int .i64 sX, .int .i64 sY, .int .i64 sD] 45)).alloc (.cells #[.int .i64 0, .int .i64 0, .int .i64 0, .int .i64 0] 35)) = V at *
  refine (HSO.out _).mono ?_
  rintro e w1 ⟨rfl, bl1⟩
  have b1 := below_to bV bl1
  have L0 := K0.to bl1
  have L1 := K1.to bl1
  have L2 := K2.to bl1
  have L3 := K3.to bl1
  clear K0 K1 K2 K3 bV bl1 HSO
  cases h1 : okS sX sY sD with
  | false =>
    have HN := Lib.hid (HNO.out (by rw [HGD.out, h1]; simp))
    clear h1 HIN
    have z0 := L3.cell0 (i := 0) (v := .int .i64 0) rfl
    have z1 := L3.cell0 (i := 1) (v := .int .i64 0) rfl
    have z2 := L3.cell0 (i := 2) (v := .int .i64 0) rfl
    have z3 := L3.cell0 (i := 3) (v := .int .i64 0) rfl
    have f0 := L3.free 0
    have f1 := L3.free 1
    have f2 := L3.free 2
    have f3 := L3.free 3
    go_wp2_with fail
    exact bodyPost_ret (v := .tuple #[.agg #[.int .i64 0, .int .i64 0, .int .i64 0, .int .i64 0], .bool false]) (by simp [results, Tryz.results13, go_sem, z0, z1, z2, z3]) rfl ⟨by rw [HN.out.1, HN.out.2.1, HN.out.2.2.1, HN.out.2.2.2.1, HN.out.2.2.2.2], ((((b1.setCell (p := ⟨w.heap.size + 1 + 1 + 1, 0, none⟩) (Nat.le_add_right _ 3) (.int .i64 0)).setCell (p := ⟨w.heap.size + 1 + 1 + 1, 1, none⟩) (Nat.le_add_right _ 3) (.int .i64 0)).setCell (p := ⟨w.heap.size + 1 + 1 + 1, 2, none⟩) (Nat.le_add_right _ 3) (.int .i64 0)).setCell (p := ⟨w.heap.size + 1 + 1 + 1, 3, none⟩) (Nat.le_add_right _ 3) (.int .i64 0))⟩
  | true =>
    have H1 := Lib.hid h1
    clear h1
    have c2 := L2.cell0 (i := 2) (v := .int .i64 sD) rfl
    by_cases h2 : 100000 < sD
    · have HN := Lib.hid (HNO.out (by rw [HGD.out, decide_eq_false (show ¬ sD ≤ 100000 by omega)]; simp))
      have z0 := L3.cell0 (i := 0) (v := .int .i64 0) rfl
      have z1 := L3.cell0 (i := 1) (v := .int .i64 0) rfl
      have z2 := L3.cell0 (i := 2) (v := .int .i64 0) rfl
      have z3 := L3.cell0 (i := 3) (v := .int .i64 0) rfl
      have f0 := L3.free 0
      have f1 := L3.free 1
      have f2 := L3.free 2
      have f3 := L3.free 3
      go_wp2_with fail
      exact bodyPost_ret (v := .tuple #[.agg #[.int .i64 0, .int .i64 0, .int .i64 0, .int .i64 0], .bool false]) (by simp [results, Tryz.results13, go_sem, z0, z1, z2, z3]) rfl ⟨by rw [HN.out.1, HN.out.2.1, HN.out.2.2.1, HN.out.2.2.2.1, HN.out.2.2.2.2], ((((b1.setCell (p := ⟨w.heap.size + 1 + 1 + 1, 0, none⟩) (Nat.le_add_right _ 3) (.int .i64 0)).setCell (p := ⟨w.heap.size + 1 + 1 + 1, 1, none⟩) (Nat.le_add_right _ 3) (.int .i64 0)).setCell (p := ⟨w.heap.size + 1 + 1 + 1, 2, none⟩) (Nat.le_add_right _ 3) (.int .i64 0)).setCell (p := ⟨w.heap.size + 1 + 1 + 1, 3, none⟩) (Nat.le_add_right _ 3) (.int .i64 0))⟩
    · have H2 := Lib.hid (show sD ≤ 100000 by omega)
      have r0 := L0.c8_0
      have r1 := L0.c8_1
      have r2 := L0.c8_2
      have r3 := L0.c8_3
      have r4 := L0.c8_4
      have r5 := L0.c8_5
      have r6 := L0.c8_6
      have r7 := L0.c8_7
      have m0 := L1.cell0 (i := 0) (v := .slice a n ca) rfl
      go_wp2_with fail
      clear c2 m0 h2 r0 r1 r2 r3 r4 r5 r6 r7
      refine (HRP.out _ b1).mono ?_
      rintro e w2 ⟨ag, cg, rfl, ho, bl2⟩
      have b2 := below_to b1 bl2
      have HO := Lib.hid (own_hs ho)
      have M0 := L0.to bl2
      have M1 := L1.to bl2
      have M2 := L2.to bl2
      have M3 := L3.to bl2
      clear L0 L1 L2 L3 b1 bl2 HRP ho
      generalize hlen : (rpL zs q bx cy lo hi ps qs rs).length = len at *
      have bN := below_one w2 (.cells #[.slice ag len cg] 40)
      have G0 := blk_new w2 #[.slice ag len cg] 40 rfl
      have b3 := below_to b2 bN
      have N0 := M0.to bN
      have N1 := M1.to bN
      have N2 := M2.to bN
      have N3 := M3.to bN
      have HO3 := Lib.hid (HO.out.below bN)
      clear M0 M1 M2 M3 b2 bN HO
      cases h3 : rpB zs q bx cy lo hi ps qs rs with
      | false =>
        have HN := Lib.hid (HNO.out (by rw [HGD.out, h3]; simp))
        clear h3 HIN
        have z0 := N3.cell0 (i := 0) (v := .int .i64 0) rfl
        have z1 := N3.cell0 (i := 1) (v := .int .i64 0) rfl
        have z2 := N3.cell0 (i := 2) (v := .int .i64 0) rfl
        have z3 := N3.cell0 (i := 3) (v := .int .i64 0) rfl
        have f0 := N3.free 0
        have f1 := N3.free 1
        have f2 := N3.free 2
        have f3 := N3.free 3
        go_wp2_with fail
        exact bodyPost_ret (v := .tuple #[.agg #[.int .i64 0, .int .i64 0, .int .i64 0, .int .i64 0], .bool false]) (by simp [results, Tryz.results13, go_sem, z0, z1, z2, z3]) rfl ⟨by rw [HN.out.1, HN.out.2.1, HN.out.2.2.1, HN.out.2.2.2.1, HN.out.2.2.2.2], ((((b3.setCell (p := ⟨w.heap.size + 1 + 1 + 1, 0, none⟩) (Nat.le_add_right _ 3) (.int .i64 0)).setCell (p := ⟨w.heap.size + 1 + 1 + 1, 1, none⟩) (Nat.le_add_right _ 3) (.int .i64 0)).setCell (p := ⟨w.heap.size + 1 + 1 + 1, 2, none⟩) (Nat.le_add_right _ 3) (.int .i64 0)).setCell (p := ⟨w.heap.size + 1 + 1 + 1, 3, none⟩) (Nat.le_add_right _ 3) (.int .i64 0))⟩
      | true =>
        have H3' := Lib.hid h3
        clear h3
        have g0 := G0.cell0 (i := 0) (v := .slice ag len cg) rfl
        go_wp2_with fail
        clear g0
        generalize w2.alloc (.cells #[.slice ag len cg] 40) = U at *
        obtain ⟨gb, hgb⟩ : ∃ b, w2.heap.size = b := ⟨_, rfl⟩
        rw [hgb] at G0 ⊢
        clear hgb
        refine (impl_void ag len cg _).mono ?_
        rintro e w4 ⟨rfl, bl4⟩
        have b4 := below_to b3 bl4
        have S0 := N0.to bl4
        have S1 := N1.to bl4
        have S2 := N2.to bl4
        have S3 := N3.to bl4
        have G1 := G0.to bl4
        have HO4 := Lib.hid (HO3.out.below bl4)
        clear N0 N1 N2 N3 G0 HO3 b3 bl4
        cases h4 : ((len : Int) == 0) with
        | true =>
          have HN := Lib.hid (HNO.out (by rw [HGD.out, h4]; simp))
          clear HIN
          have z0 := S3.cell0 (i := 0) (v := .int .i64 0) rfl
          have z1 := S3.cell0 (i := 1) (v := .int .i64 0) rfl
          have z2 := S3.cell0 (i := 2) (v := .int .i64 0) rfl
          have z3 := S3.cell0 (i := 3) (v := .int .i64 0) rfl
          have f0 := S3.free 0
          have f1 := S3.free 1
          have f2 := S3.free 2
          have f3 := S3.free 3
          go_wp2_with fail
          exact bodyPost_ret (v := .tuple #[.agg #[.int .i64 0, .int .i64 0, .int .i64 0, .int .i64 0], .bool false]) (by simp [results, Tryz.results13, go_sem, z0, z1, z2, z3]) rfl ⟨by rw [HN.out.1, HN.out.2.1, HN.out.2.2.1, HN.out.2.2.2.1, HN.out.2.2.2.2], ((((b4.setCell (p := ⟨w.heap.size + 1 + 1 + 1, 0, none⟩) (Nat.le_add_right _ 3) (.int .i64 0)).setCell (p := ⟨w.heap.size + 1 + 1 + 1, 1, none⟩) (Nat.le_add_right _ 3) (.int .i64 0)).setCell (p := ⟨w.heap.size + 1 + 1 + 1, 2, none⟩) (Nat.le_add_right _ 3) (.int .i64 0)).setCell (p := ⟨w.heap.size + 1 + 1 + 1, 3, none⟩) (Nat.le_add_right _ 3) (.int .i64 0))⟩
        | false =>
          have HN := Lib.hid (HYE.out (by rw [HGD.out, H1.out, decide_eq_true H2.out, H3'.out, h4]; rfl))
          have HI := Lib.hid (HIN.out w4 ag cg b4 H3'.out HO4.out H1.out H2.out)
          try rw [hlen] at HI
          clear HIN HO4 h4
          have r0 := S0.c8_0
          have r1 := S0.c8_1
          have r2 := S0.c8_2
          have r3 := S0.c8_3
          have r4 := S0.c8_4
          have r5 := S0.c8_5
          have r6 := S0.c8_6
          have r7 := S0.c8_7
          have g0 := G1.cell0 (i := 0) (v := .slice ag len cg) rfl
          have c0 := S2.cell0 (i := 0) (v := .int .i64 sX) rfl
          have c1 := S2.cell0 (i := 1) (v := .int .i64 sY) rfl
          have c2 := S2.cell0 (i := 2) (v := .int .i64 sD) rfl
          go_wp2_with fail
          clear g0 c0 c1 c2 r0 r1 r2 r3 r4 r5 r6 r7
          refine HI.out.mono ?_
          rintro e w5 ⟨rfl, bl5⟩
          have b5 := below_to b4 bl5
          have T3 := S3.to bl5
          have z0 := T3.cell0 (i := 0) (v := .int .i64 0) rfl
          have z1 := T3.cell0 (i := 1) (v := .int .i64 0) rfl
          have z2 := T3.cell0 (i := 2) (v := .int .i64 0) rfl
          have z3 := T3.cell0 (i := 3) (v := .int .i64 0) rfl
          have f0 := T3.free 0
          have f1 := T3.free 1
          have f2 := T3.free 2
          have f3 := T3.free 3
          go_wp2_with fail
          exact bodyPost_ret (v := .tuple #[.agg #[.int .i64 e1, .int .i64 e2, .int .i64 e3, .int .i64 e4], .bool Q]) (by simp [results, Tryz.results13, go_sem, z0, z1, z2, z3]) rfl ⟨by rw [HN.out.1, HN.out.2.1, HN.out.2.2.1, HN.out.2.2.2.1, HN.out.2.2.2.2], ((((b5.setCell (p := ⟨w.heap.size + 1 + 1 + 1, 0, none⟩) (Nat.le_add_right _ 3) (.int .i64 e1)).setCell (p := ⟨w.heap.size + 1 + 1 + 1, 1, none⟩) (Nat.le_add_right _ 3) (.int .i64 e2)).setCell (p := ⟨w.heap.size + 1 + 1 + 1, 2, none⟩) (Nat.le_add_right _ 3) (.int .i64 e3)).setCell (p := ⟨w.heap.size + 1 + 1 + 1, 3, none⟩) (Nat.le_add_right _ 3) (.int .i64 e4))⟩
end Go.Proofs.YtibkmhmeoelpdaaGreat
