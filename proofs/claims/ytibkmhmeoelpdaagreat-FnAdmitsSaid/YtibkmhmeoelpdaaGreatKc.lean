/- What RoomOk answers, and the program's RoomOk over the translation. -/
import Derived.Test.YtibkmhmeoelpdaaGreatKz
import Derived.Test.YtibkmhmeoelpdaaGreatMx
import Derived.Test.YtibkmhmeoelpdaaGreatGv
namespace Go.Proofs.YtibkmhmeoelpdaaGreat
open Go.RowKit
open Geo (H3)

/-- a region that is valid and not void -/
def solB (ps : List H3) : Bool := !decide (ps = []) && rokB ps
/-- a model that is valid -/
def rmM (zs : List Int) (q bx cy : Int) : Bool := mapB zs q && !decide (detI zs = 0) && (inB bx (-100) 100 && inB cy (-100) 100)
/-- a room that is valid -/
def rmB (zs : List Int) (q bx cy lo hi : Int) (ps qs : List H3) : Bool := rmM zs q bx cy && (inB lo (-1000) 1000 && inB hi lo 1000) && solB ps && solB qs

set_option maxRecDepth 100000 in
set_option maxHeartbeats 800000 in
theorem impl_sol (a : Option Addr) (n ca : Nat) (ps : List H3) (w : World) (b : Bool) (hb : solB ps = b) (hl : ps.length = n) (hn : n ≤ 1048576) (h64 : ∀ h ∈ ps, In64 h) (hA : HsAt w a ps) :
    Calls Tryz.prog 62 #[.agg #[.slice a n ca]] w fun e w' => e = .returned (.bool b) ∧ Below w.heap.size w w' := by
  subst hb
  have bV := below_one w (.cells #[.slice a n ca] 40)
  have q0 : (w.alloc (.cells #[.slice a n ca] 40)).cell? ⟨w.heap.size, 0, none⟩ = some (.slice a n ca) := by simp
  have HV := Lib.hid (fun V => impl_void a n ca V)
  have HR := Lib.hid (fun V (h : Below w.heap.size w V) => impl_rok a n ca ps V hl hn h64 (hA.below h))
  have HL := Lib.hid hl
  clear hl hA h64
  by_cases h0 : n = 0
  · have HN := Lib.hid (show solB ps = false by unfold solB; rw [len_nil HL.out h0]; rfl)
    subst h0
    go_enter Tryz.func62, Tryz.ntmps62
    go_wp2_with fail
    refine (HV.out _).mono ?_
    rintro e w1 ⟨rfl, bl1⟩
    have b1 := below_to bV bl1
    go_wp2
    go_ret
    exact ⟨ret_bool HN.out.symm, b1⟩
  · have HN := Lib.hid (show solB ps = rokB ps by unfold solB; simp [len_ne HL.out h0])
    have hb0 : ((n : Int) == 0) = false := eq_b (by omega)
    go_enter Tryz.func62, Tryz.ntmps62
    go_wp2_with fail
    refine (HV.out _).mono ?_
    rintro e w1 ⟨rfl, bl1⟩
    have b1 := below_to bV bl1
    have q1 := cell_to q0 bl1
    go_wp2_with fail
    refine (HR.out _ b1).mono ?_
    rintro e w2 ⟨rfl, bl2⟩
    have b2 := below_to b1 bl2
    go_wp2
    go_ret
    exact ⟨ret_bool HN.out.symm, b2⟩
set_option maxRecDepth 100000 in
set_option maxHeartbeats 1600000 in
theorem impl_wm (am : Option Addr) (nm cm : Nat) (q bx cy lo hi : Int) (an : Option Addr) (nn cn : Nat) (al : Option Addr) (nl cl : Nat)  (w : World) :
    Calls Tryz.prog 56 #[.agg #[.slice am nm cm, .int .i64 q, .int .i64 bx, .int .i64 cy, .int .i64 lo, .int .i64 hi, .slice an nn cn, .slice al nl cl]] w fun e w' => e = .returned (.agg #[.slice am nm cm, .int .i64 q, .int .i64 bx, .int .i64 cy, .slice am nm cm, .int .i64 q, .int .i64 bx, .int .i64 cy, .int .i64 lo, .int .i64 hi, .slice an nn cn, .slice al nl cl]) ∧ Below w.heap.size w w' := by
  have bV := below_bx2 (below_one w (.cells #[.slice am nm cm, .int .i64 q, .int .i64 bx, .int .i64 cy, .int .i64 lo, .int .i64 hi, .slice an nn cn, .slice al nl cl] 42)) (.cells #[.slice none 0 0, .int .i64 0, .int .i64 0, .int .i64 0, .slice none 0 0, .int .i64 0, .int .i64 0, .int .i64 0, .int .i64 0, .int .i64 0, .slice none 0 0, .slice none 0 0] 91)
  have K0 := (blk_new w #[.slice am nm cm, .int .i64 q, .int .i64 bx, .int .i64 cy, .int .i64 lo, .int .i64 hi, .slice an nn cn, .slice al nl cl] 42 rfl).to (below_one _ (.cells #[.slice none 0 0, .int .i64 0, .int .i64 0, .int .i64 0, .slice none 0 0, .int .i64 0, .int .i64 0, .int .i64 0, .int .i64 0, .int .i64 0, .slice none 0 0, .slice none 0 0] 91))
  have K1 := blk_new (w.alloc (.cells #[.slice am nm cm, .int .i64 q, .int .i64 bx, .int .i64 cy, .int .i64 lo, .int .i64 hi, .slice an nn cn, .slice al nl cl] 42)) #[.slice none 0 0, .int .i64 0, .int .i64 0, .int .i64 0, .slice none 0 0, .int .i64 0, .int .i64 0, .int .i64 0, .int .i64 0, .int .i64 0, .slice none 0 0, .slice none 0 0] 91 (b := w.heap.size + 1) (by simp)
  go_enter Tryz.func56, Tryz.ntmps56
  have k0 := K0.c8_0
  have k1 := K0.c8_1
  have k2 := K0.c8_2
  have k3 := K0.c8_3
  have k4 := K0.c8_4
  have k5 := K0.c8_5
  have k6 := K0.c8_6
  have k7 := K0.c8_7
  have u0 := K1.cell0 (i := 0) (v := .slice none 0 0) rfl
  have f0 := K1.free 0
  have u1 := K1.cell0 (i := 1) (v := .int .i64 0) rfl
  have f1 := K1.free 1
  have u2 := K1.cell0 (i := 2) (v := .int .i64 0) rfl
  have f2 := K1.free 2
  have u3 := K1.cell0 (i := 3) (v := .int .i64 0) rfl
  have f3 := K1.free 3
  have u4 := K1.cell0 (i := 4) (v := .slice none 0 0) rfl
  have f4 := K1.free 4
  have u5 := K1.cell0 (i := 5) (v := .int .i64 0) rfl
  have f5 := K1.free 5
  have u6 := K1.cell0 (i := 6) (v := .int .i64 0) rfl
  have f6 := K1.free 6
  have u7 := K1.cell0 (i := 7) (v := .int .i64 0) rfl
  have f7 := K1.free 7
  have u8 := K1.cell0 (i := 8) (v := .int .i64 0) rfl
  have f8 := K1.free 8
  have u9 := K1.cell0 (i := 9) (v := .int .i64 0) rfl
  have f9 := K1.free 9
  have u10 := K1.cell0 (i := 10) (v := .slice none 0 0) rfl
  have f10 := K1.free 10
  have u11 := K1.cell0 (i := 11) (v := .slice none 0 0) rfl
  have f11 := K1.free 11
  go_wp2_with fail
  exact bodyPost_ret (v := .agg #[.slice am nm cm, .int .i64 q, .int .i64 bx, .int .i64 cy, .slice am nm cm, .int .i64 q, .int .i64 bx, .int .i64 cy, .int .i64 lo, .int .i64 hi, .slice an nn cn, .slice al nl cl]) (by simp [results, Tryz.results56, go_sem]) rfl ⟨rfl, below_bx2 (below_one _ _) _⟩
set_option maxHeartbeats 1600000 in
theorem impl_ism (am : Option Addr) (nm cm : Nat) (zs : List Int) (q bx cy : Int) (w : World) (b : Bool) (hb : rmM zs q bx cy = b) (hl : zs.length = nm) (hA : IsAt w am zs) :
    Calls Tryz.prog 60 #[.agg #[.slice am nm cm, .int .i64 q, .int .i64 bx, .int .i64 cy]] w fun e w' => e = .returned (.bool b) ∧ Below w.heap.size w w' := by
  subst hb
  have bV := below_one w (.cells #[.slice am nm cm, .int .i64 q, .int .i64 bx, .int .i64 cy] 89)
  have K0 := blk_new w #[.slice am nm cm, .int .i64 q, .int .i64 bx, .int .i64 cy] 89 rfl
  have k0 := K0.cell0 (i := 0) (v := .slice am nm cm) rfl
  have k1 := K0.cell0 (i := 1) (v := .int .i64 q) rfl
  have k2 := K0.cell0 (i := 2) (v := .int .i64 bx) rfl
  have k3 := K0.cell0 (i := 3) (v := .int .i64 cy) rfl
  have HI := Lib.hid (fun V (h : Below w.heap.size w V) => impl_map am nm cm zs q V hl (hA.below h))
  have HD := Lib.hid (fun V (h : Below w.heap.size w V) (m : mapB zs q = true) => impl_det am nm cm zs q V hl m (hA.below h))
  have HG := Lib.hid (fun V => impl_drv bx cy V _ rfl)
  clear hl hA
  cases hm : mapB zs q with
  | false =>
    have HN := Lib.hid (show rmM zs q bx cy = false by unfold rmM; rw [hm]; rfl)
    rw [hm] at HI
    clear hm
    go_enter Tryz.func60, Tryz.ntmps60
    go_wp2_with fail
    refine (HI.out _ bV).mono ?_
    rintro e w1 ⟨rfl, hw1⟩
    subst hw1
    go_wp2
    go_ret
    exact ⟨ret_bool HN.out.symm, bV⟩
  | true =>
    have HMM := Lib.hid hm
    rw [hm] at HI
    clear hm
    by_cases hd : detI zs = 0
    · have HN := Lib.hid (show rmM zs q bx cy = false by unfold rmM; rw [hd]; simp)
      go_enter Tryz.func60, Tryz.ntmps60
      go_wp2_with fail
      refine (HI.out _ bV).mono ?_
      rintro e w1 ⟨rfl, hw1⟩
      subst hw1
      go_wp2_with fail
      refine (HD.out _ bV HMM.out).mono ?_
      rintro e w2 ⟨rfl, bl2⟩
      have b2 := below_to bV bl2
      go_wp2
      go_ret
      exact ⟨ret_bool HN.out.symm, b2⟩
    · have hd0 : (detI zs != 0) = true := by simpa using hd
      have HN := Lib.hid (show rmM zs q bx cy = (inB bx (-100) 100 && inB cy (-100) 100) by unfold rmM; rw [HMM.out]; simp [hd])
      generalize (inB bx (-100) 100 && inB cy (-100) 100) = r at *
      go_enter Tryz.func60, Tryz.ntmps60
      go_wp2_with fail
      refine (HI.out _ bV).mono ?_
      rintro e w1 ⟨rfl, hw1⟩
      subst hw1
      go_wp2_with fail
      refine (HD.out _ bV HMM.out).mono ?_
      rintro e w2 ⟨rfl, bl2⟩
      have b2 := below_to bV bl2
      have k22 := cell_to k2 bl2
      have k23 := cell_to k3 bl2
      go_wp2_with fail
      refine (HG.out _).mono ?_
      rintro e w3 ⟨rfl, hw3⟩
      subst hw3
      go_wp2
      go_ret
      exact ⟨ret_bool HN.out.symm, b2⟩
set_option maxRecDepth 100000 in
set_option maxHeartbeats 3200000 in
theorem impl_room (am : Option Addr) (nm cm : Nat) (zs : List Int) (q bx cy lo hi : Int) (an : Option Addr) (nn cn : Nat) (ps : List H3) (al : Option Addr) (nl cl : Nat) (qs : List H3) (w : World) (b : Bool) (hb : rmB zs q bx cy lo hi ps qs = b) (hA : RAt w am nm zs an nn ps al nl qs) (h64 : R64 q bx cy lo hi ps qs) (hle : nm + nn + nl ≤ 1048576) :
    Calls Tryz.prog 20 #[.agg #[.slice am nm cm, .int .i64 q, .int .i64 bx, .int .i64 cy, .int .i64 lo, .int .i64 hi, .slice an nn cn, .slice al nl cl]] w fun e w' => e = .returned (.bool b) ∧ Below w.heap.size w w' := by
  have bV := below_one w (.cells #[.slice am nm cm, .int .i64 q, .int .i64 bx, .int .i64 cy, .int .i64 lo, .int .i64 hi, .slice an nn cn, .slice al nl cl] 42)
  have K0 := blk_new w #[.slice am nm cm, .int .i64 q, .int .i64 bx, .int .i64 cy, .int .i64 lo, .int .i64 hi, .slice an nn cn, .slice al nl cl] 42 rfl
  have HW := Lib.hid (fun V => impl_wm am nm cm q bx cy lo hi an nn cn al nl cl V)
  have HI := Lib.hid (fun V (h : Below w.heap.size w V) => impl_ism am nm cm zs q bx cy V _ rfl hA.lm (hA.hm.below h))
  have HG := Lib.hid (fun V => impl_rng lo hi V _ rfl)
  have HP := Lib.hid (fun V (h : Below w.heap.size w V) => impl_sol an nn cn ps V _ rfl hA.ln (by omega) h64.ps (hA.hn.below h))
  have HQ := Lib.hid (fun V (h : Below w.heap.size w V) => impl_sol al nl cl qs V _ rfl hA.ll (by omega) h64.qs (hA.hl.below h))
  have HB := Lib.hid (show (rmM zs q bx cy && (inB lo (-1000) 1000 && inB hi lo 1000) && solB ps && solB qs) = b from hb)
  clear hA h64 hb
  generalize rmM zs q bx cy = r1 at *
  generalize (inB lo (-1000) 1000 && inB hi lo 1000) = r2 at *
  generalize solB ps = r3 at *
  generalize solB qs = r4 at *
  have hfd : ∀ W : World, (Instr.field 91 (.agg #[.slice am nm cm, .int .i64 q, .int .i64 bx, .int .i64 cy, .slice am nm cm, .int .i64 q, .int .i64 bx, .int .i64 cy, .int .i64 lo, .int .i64 hi, .slice an nn cn, .slice al nl cl]) 0).run Tryz.prog W = .ok (.agg #[.slice am nm cm, .int .i64 q, .int .i64 bx, .int .i64 cy]) W := fun _ => by kernel_rfl
  go_enter Tryz.func20, Tryz.ntmps20
  have k0 := K0.c8_0
  have k1 := K0.c8_1
  have k2 := K0.c8_2
  have k3 := K0.c8_3
  have k4 := K0.c8_4
  have k5 := K0.c8_5
  have k6 := K0.c8_6
  have k7 := K0.c8_7
  go_wp2_with fail
  generalize (w.alloc (.cells #[.slice am nm cm, .int .i64 q, .int .i64 bx, .int .i64 cy, .int .i64 lo, .int .i64 hi, .slice an nn cn, .slice al nl cl] 42)) = V at *
  refine (HW.out _).mono ?_
  rintro e w1 ⟨rfl, bl1⟩
  have b1 := below_to bV bl1
  have L0 := K0.to bl1
  clear bV bl1 k0 k1 k2 k3 k4 k5 k6 k7 K0
  go_wp2_with fail
  refine (HI.out _ b1).mono ?_
  rintro e w2 ⟨rfl, bl2⟩
  have b2 := below_to b1 bl2
  have K0 := L0.to bl2
  have k4 := K0.c8_4
  have k5 := K0.c8_5
  clear b1 bl2 L0
  cases r1 with
  | false =>
    have HN := Lib.hid (show b = false by rw [← HB.out]; rfl)
    go_wp2
    go_ret
    exact ⟨ret_bool HN.out.symm, b2⟩
  | true =>
    go_wp2_with fail
    refine (HG.out _).mono ?_
    rintro e w3 ⟨rfl, hw3⟩
    subst hw3
    clear k4 k5
    have k6 := K0.c8_6
    cases r2 with
    | false =>
      have HN := Lib.hid (show b = false by rw [← HB.out]; rfl)
      go_wp2
      go_ret
      exact ⟨ret_bool HN.out.symm, b2⟩
    | true =>
      go_wp2_with fail
      refine (HP.out _ b2).mono ?_
      rintro e w4 ⟨rfl, bl4⟩
      have b4 := below_to b2 bl4
      have L0 := K0.to bl4
      have k7 := L0.c8_7
      clear k6 K0 bl4 b2
      cases r3 with
      | false =>
        have HN := Lib.hid (show b = false by rw [← HB.out]; rfl)
        go_wp2
        go_ret
        exact ⟨ret_bool HN.out.symm, b4⟩
      | true =>
        have HN := Lib.hid (show r4 = b by rw [← HB.out]; simp)
        go_wp2_with fail
        refine (HQ.out _ b4).mono ?_
        rintro e w5 ⟨rfl, bl5⟩
        have b5 := below_to b4 bl5
        go_wp2
        go_ret
        exact ⟨ret_bool HN.out, b5⟩
end Go.Proofs.YtibkmhmeoelpdaaGreat
