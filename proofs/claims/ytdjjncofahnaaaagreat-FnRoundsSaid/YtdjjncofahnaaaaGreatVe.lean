/- PreRegion of the program, over the translation. -/
import Derived.Test.YtdjjncofahnaaaaGreatVc
import Derived.Test.YtdjjncofahnaaaaGreatKd
import Derived.Test.YtdjjncofahnaaaaGreatEg
import Derived.Test.YtdjjncofahnaaaaGreatMf
namespace Go.Proofs.YtdjjncofahnaaaaGreat
open Go.RowKit
open Geo (H3)

/-- the list and the answer behind the first k steps -/
noncomputable def prM (zs : List Int) (q bx cy lo hi : Int) (ps rs : List H3) : Nat → List H3
  | 0 => rs
  | 1 => eroL rs ps
  | 2 => prG bx cy lo hi ps rs
  | _ => pbkL (prG bx cy lo hi ps rs) zs q
noncomputable def prT (zs : List Int) (q bx cy lo hi : Int) (ps rs : List H3) : Nat → Bool
  | 0 => true
  | 1 => eroB rs ps
  | 2 => eroB rs ps && gwB (eroL rs ps) bx cy lo hi
  | _ => eroB rs ps && gwB (eroL rs ps) bx cy lo hi && pbkB (prG bx cy lo hi ps rs) zs q
theorem pr_f0 {zs : List Int} {q bx cy lo hi : Int} {ps qs rs : List H3} (_ : rmB zs q bx cy lo hi ps qs = true) (_ : prT zs q bx cy lo hi ps rs 0 = true) (h : eroB rs ps = false) : prL zs q bx cy lo hi ps qs rs = [] ∧ prB zs q bx cy lo hi ps qs rs = false :=
  pr_no (by rw [h]; simp)
theorem pr_f1 {zs : List Int} {q bx cy lo hi : Int} {ps qs rs : List H3} (_ : rmB zs q bx cy lo hi ps qs = true) (_ : prT zs q bx cy lo hi ps rs 1 = true) (h : gwB (eroL rs ps) bx cy lo hi = false) : prL zs q bx cy lo hi ps qs rs = [] ∧ prB zs q bx cy lo hi ps qs rs = false :=
  pr_no (by rw [h]; simp)
theorem pr_f2 {zs : List Int} {q bx cy lo hi : Int} {ps qs rs : List H3} (_ : rmB zs q bx cy lo hi ps qs = true) (_ : prT zs q bx cy lo hi ps rs 2 = true) (h : pbkB (prG bx cy lo hi ps rs) zs q = false) : prL zs q bx cy lo hi ps qs rs = [] ∧ prB zs q bx cy lo hi ps qs rs = false := by
  have e : prB zs q bx cy lo hi ps qs rs = false := by unfold prB; rw [h]; simp
  exact ⟨by unfold prL; rw [if_neg (by rw [e]; simp)], e⟩
theorem pr_t0 {zs : List Int} {q bx cy lo hi : Int} {ps rs : List H3} (_ : prT zs q bx cy lo hi ps rs 0 = true) (h : eroB rs ps = true) : prT zs q bx cy lo hi ps rs 1 = true := h
theorem pr_t1 {zs : List Int} {q bx cy lo hi : Int} {ps rs : List H3} (k : prT zs q bx cy lo hi ps rs 1 = true) (h : gwB (eroL rs ps) bx cy lo hi = true) : prT zs q bx cy lo hi ps rs 2 = true := by
  show (eroB rs ps && gwB (eroL rs ps) bx cy lo hi) = true
  rw [h, show eroB rs ps = true from k]; rfl
theorem pr_t2 {zs : List Int} {q bx cy lo hi : Int} {ps rs : List H3} (k : prT zs q bx cy lo hi ps rs 2 = true) (h : pbkB (prG bx cy lo hi ps rs) zs q = true) : prT zs q bx cy lo hi ps rs 3 = true := by
  show (eroB rs ps && gwB (eroL rs ps) bx cy lo hi && pbkB (prG bx cy lo hi ps rs) zs q) = true
  rw [h, show (eroB rs ps && gwB (eroL rs ps) bx cy lo hi) = true from k]; rfl
theorem pr_end {zs : List Int} {q bx cy lo hi : Int} {ps qs rs : List H3} (h : rmB zs q bx cy lo hi ps qs = true) (k : prT zs q bx cy lo hi ps rs 3 = true) : prL zs q bx cy lo hi ps qs rs = prM zs q bx cy lo hi ps rs 3 ∧ prB zs q bx cy lo hi ps qs rs = true := by
  have e : prB zs q bx cy lo hi ps qs rs = true := by
    unfold prB
    have k : (eroB rs ps && gwB (eroL rs ps) bx cy lo hi && pbkB (prG bx cy lo hi ps rs) zs q) = true := k
    simp only [Bool.and_eq_true] at k ⊢
    exact ⟨⟨⟨h, k.1.1⟩, k.1.2⟩, k.2⟩
  exact ⟨by unfold prL; rw [if_pos e]; rfl, e⟩
set_option maxRecDepth 100000 in
set_option maxHeartbeats 1600000 in
theorem impl_pr (am : Option Addr) (nm cm : Nat) (zs : List Int) (q bx cy lo hi : Int) (an : Option Addr) (nn cn : Nat) (ps : List H3) (al : Option Addr) (nl cl : Nat) (qs : List H3) (a : Option Addr) (n ca : Nat) (rs : List H3) (w : World) (hA : RAt w am nm zs an nn ps al nl qs) (h64 : R64 q bx cy lo hi ps qs) (hle : nm + nn + nl ≤ 1048576) (hl : rs.length = n) (hn : n ≤ 1048576) (hr64 : ∀ h ∈ rs, In64 h) (hz : a = none → n = 0 ∧ ca = 0) (hG : HsAt w a rs) :
    Calls Tryz.prog 51 #[.agg #[.slice am nm cm, .int .i64 q, .int .i64 bx, .int .i64 cy, .int .i64 lo, .int .i64 hi, .slice an nn cn, .slice al nl cl], .agg #[.slice a n ca]] w (AnsR w (prL zs q bx cy lo hi ps qs rs) (prB zs q bx cy lo hi ps qs rs)) := by
  subst hl
  have bV := below_bx2 (below_bx2 (below_one w (.cells #[.slice am nm cm, .int .i64 q, .int .i64 bx, .int .i64 cy, .int .i64 lo, .int .i64 hi, .slice an nn cn, .slice al nl cl] 28)) (.cells #[.slice a rs.length ca] 26)) (.cells #[.slice none 0 0] 26)
  have K0 := ((blk_new w #[.slice am nm cm, .int .i64 q, .int .i64 bx, .int .i64 cy, .int .i64 lo, .int .i64 hi, .slice an nn cn, .slice al nl cl] 28 (b := w.heap.size) (by simp)).to (below_one _ (.cells #[.slice a rs.length ca] 26))).to (below_one _ (.cells #[.slice none 0 0] 26))
  have K1 := (blk_new (w.alloc (.cells #[.slice am nm cm, .int .i64 q, .int .i64 bx, .int .i64 cy, .int .i64 lo, .int .i64 hi, .slice an nn cn, .slice al nl cl] 28)) #[.slice a rs.length ca] 26 (b := w.heap.size + 1) (by simp)).to (below_one _ (.cells #[.slice none 0 0] 26))
  have K2 := blk_new ((w.alloc (.cells #[.slice am nm cm, .int .i64 q, .int .i64 bx, .int .i64 cy, .int .i64 lo, .int .i64 hi, .slice an nn cn, .slice al nl cl] 28)).alloc (.cells #[.slice a rs.length ca] 26)) #[.slice none 0 0] 26 (b := w.heap.size + 1 + 1) (by simp)
  have hmf : ∀ (fn : Fn) (first cap : Array Value) (w : World), (Instr.makeFunc fn first cap).run Tryz.prog w = .ok (.func fn first cap) w := fun _ _ _ _ => rfl
  have HR := Lib.hid (fun V (h : Below w.heap.size w V) => impl_room am nm cm zs q bx cy lo hi an nn cn ps al nl cl qs V _ rfl (hA.below h) h64 hle)
  have HW := Lib.hid (fun V => impl_wm am nm cm q bx cy lo hi an nn cn al nl cl V)
  have H0 := Lib.hid (fun V a1 c1 (h : Below w.heap.size w V) (k0 : a1 = none → rs.length = 0 ∧ c1 = 0) (k : HsAt V a1 rs) => impl_bno am nm cm zs q bx cy lo hi an nn cn ps al nl cl qs a1 rs.length c1 rs V (hA.below h) h64 hle rfl hn hr64 k0 k)
  have H1 := Lib.hid (fun V a1 c1 (_ : Below w.heap.size w V) (k0 : a1 = none → (eroL rs ps).length = 0 ∧ c1 = 0) (k : HsAt V a1 (eroL rs ps)) => impl_bin am nm cm zs q bx cy lo hi an nn cn ps al nl cl qs a1 (eroL rs ps).length c1 (eroL rs ps) V (hA.below ‹_›) h64 hle rfl (Nat.le_trans (ero_len _ _) (by omega)) (ero_64 _ _) k0 k)
  have H2 := Lib.hid (fun V a1 c1 (_ : Below w.heap.size w V) (k0 : a1 = none → (prG bx cy lo hi ps rs).length = 0 ∧ c1 = 0) (k : HsAt V a1 (prG bx cy lo hi ps rs)) => impl_bma am nm cm zs q bx cy lo hi an nn cn ps al nl cl qs a1 (prG bx cy lo hi ps rs).length c1 (prG bx cy lo hi ps rs) V (hA.below ‹_›) h64 hle rfl (Nat.le_trans (prG_len _ _ _ _ _ _) (by omega)) (prG_64 _ _ _ _ _ _) k0 k)
  have HG := Lib.hid hG
  have HZ := Lib.hid hz
  clear hA h64 hn hr64 hz hG
  have c0_0 := K0.c8_0
  have c0_1 := K0.c8_1
  have c0_2 := K0.c8_2
  have c0_3 := K0.c8_3
  have c0_4 := K0.c8_4
  have c0_5 := K0.c8_5
  have c0_6 := K0.c8_6
  have c0_7 := K0.c8_7
  go_enter Tryz.func51, Tryz.ntmps51
  go_wp2_with fail
  clear c0_0 c0_1 c0_2 c0_3 c0_4 c0_5 c0_6 c0_7
  generalize (((w.alloc (.cells #[.slice am nm cm, .int .i64 q, .int .i64 bx, .int .i64 cy, .int .i64 lo, .int .i64 hi, .slice an nn cn, .slice al nl cl] 28)).alloc (.cells #[.slice a rs.length ca] 26)).alloc (.cells #[.slice none 0 0] 26)) = V at *
  refine (HR.out _ bV).mono ?_
  rintro e w1 ⟨rfl, bl1⟩
  have b1 := below_to bV bl1
  have L0 := K0.to bl1
  have L1 := K1.to bl1
  have L2 := K2.to bl1
  clear bV bl1 K0 K1 K2 HR
  cases hr : rmB zs q bx cy lo hi ps qs with
  | false =>
    have HN := Lib.hid (pr_no (rs := rs) (by rw [hr]; rfl : (rmB zs q bx cy lo hi ps qs && eroB rs ps && gwB (eroL rs ps) bx cy lo hi) = false))
    clear hr
    have q2 := L2.cell0 (i := 0) (v := .slice none 0 0) rfl
    have f2 := L2.free 0
    go_wp2_with fail
    exact bodyPost_ret (v := .tuple #[.agg #[.slice none 0 0], .bool false]) (by simp [results, Tryz.results51, go_sem, q2]) rfl (AnsR.no HN.out.1 HN.out.2 (b1.setCell (p := ⟨w.heap.size + 1 + 1, 0, none⟩) (Nat.le_add_right _ 2) _))
  | true =>
    have c0_0 := L0.c8_0
    have c0_1 := L0.c8_1
    have c0_2 := L0.c8_2
    have c0_3 := L0.c8_3
    have c0_4 := L0.c8_4
    have c0_5 := L0.c8_5
    have c0_6 := L0.c8_6
    have c0_7 := L0.c8_7
    go_wp2_with fail
    clear c0_0 c0_1 c0_2 c0_3 c0_4 c0_5 c0_6 c0_7
    refine (HW.out _).mono ?_
    rintro e w2 ⟨rfl, bl2⟩
    have b2 := below_to b1 bl2
    have M0 := L0.to bl2
    have M1 := L1.to bl2
    have M2 := L2.to bl2
    clear b1 bl2 L0 L1 L2 HW
    have b3 := below_bx2 b2 (.cells #[.slice am nm cm, .int .i64 q, .int .i64 bx, .int .i64 cy, .slice am nm cm, .int .i64 q, .int .i64 bx, .int .i64 cy, .int .i64 lo, .int .i64 hi, .slice an nn cn, .slice al nl cl] 81)
    have N3 := blk_new w2 #[.slice am nm cm, .int .i64 q, .int .i64 bx, .int .i64 cy, .slice am nm cm, .int .i64 q, .int .i64 bx, .int .i64 cy, .int .i64 lo, .int .i64 hi, .slice an nn cn, .slice al nl cl] 81 rfl
    have N0 := M0.to (below_one w2 (.cells #[.slice am nm cm, .int .i64 q, .int .i64 bx, .int .i64 cy, .slice am nm cm, .int .i64 q, .int .i64 bx, .int .i64 cy, .int .i64 lo, .int .i64 hi, .slice an nn cn, .slice al nl cl] 81))
    have N1 := M1.to (below_one w2 (.cells #[.slice am nm cm, .int .i64 q, .int .i64 bx, .int .i64 cy, .slice am nm cm, .int .i64 q, .int .i64 bx, .int .i64 cy, .int .i64 lo, .int .i64 hi, .slice an nn cn, .slice al nl cl] 81))
    have N2 := M2.to (below_one w2 (.cells #[.slice am nm cm, .int .i64 q, .int .i64 bx, .int .i64 cy, .slice am nm cm, .int .i64 q, .int .i64 bx, .int .i64 cy, .int .i64 lo, .int .i64 hi, .slice an nn cn, .slice al nl cl] 81))
    have d0 := N3.cell0 (i := 0) (v := .slice am nm cm) rfl
    have d1 := N3.cell0 (i := 1) (v := .int .i64 q) rfl
    have d2 := N3.cell0 (i := 2) (v := .int .i64 bx) rfl
    have d3 := N3.cell0 (i := 3) (v := .int .i64 cy) rfl
    have d4 := N3.cell0 (i := 4) (v := .slice am nm cm) rfl
    have d5 := N3.cell0 (i := 5) (v := .int .i64 q) rfl
    have d6 := N3.cell0 (i := 6) (v := .int .i64 bx) rfl
    have d7 := N3.cell0 (i := 7) (v := .int .i64 cy) rfl
    have d8 := N3.cell0 (i := 8) (v := .int .i64 lo) rfl
    have d9 := N3.cell0 (i := 9) (v := .int .i64 hi) rfl
    have d10 := N3.cell0 (i := 10) (v := .slice an nn cn) rfl
    have d11 := N3.cell0 (i := 11) (v := .slice al nl cl) rfl
    have b4 := below_bx2 b3 (.cells #[.func (.func 100) #[.agg #[.slice am nm cm, .int .i64 q, .int .i64 bx, .int .i64 cy, .slice am nm cm, .int .i64 q, .int .i64 bx, .int .i64 cy, .int .i64 lo, .int .i64 hi, .slice an nn cn, .slice al nl cl]] #[], .func (.func 101) #[.agg #[.slice am nm cm, .int .i64 q, .int .i64 bx, .int .i64 cy, .slice am nm cm, .int .i64 q, .int .i64 bx, .int .i64 cy, .int .i64 lo, .int .i64 hi, .slice an nn cn, .slice al nl cl]] #[], .func (.func 102) #[.agg #[.slice am nm cm, .int .i64 q, .int .i64 bx, .int .i64 cy, .slice am nm cm, .int .i64 q, .int .i64 bx, .int .i64 cy, .int .i64 lo, .int .i64 hi, .slice an nn cn, .slice al nl cl]] #[]] 126)
    have P4 := blk_new (w2.alloc (.cells #[.slice am nm cm, .int .i64 q, .int .i64 bx, .int .i64 cy, .slice am nm cm, .int .i64 q, .int .i64 bx, .int .i64 cy, .int .i64 lo, .int .i64 hi, .slice an nn cn, .slice al nl cl] 81)) #[.func (.func 100) #[.agg #[.slice am nm cm, .int .i64 q, .int .i64 bx, .int .i64 cy, .slice am nm cm, .int .i64 q, .int .i64 bx, .int .i64 cy, .int .i64 lo, .int .i64 hi, .slice an nn cn, .slice al nl cl]] #[], .func (.func 101) #[.agg #[.slice am nm cm, .int .i64 q, .int .i64 bx, .int .i64 cy, .slice am nm cm, .int .i64 q, .int .i64 bx, .int .i64 cy, .int .i64 lo, .int .i64 hi, .slice an nn cn, .slice al nl cl]] #[], .func (.func 102) #[.agg #[.slice am nm cm, .int .i64 q, .int .i64 bx, .int .i64 cy, .slice am nm cm, .int .i64 q, .int .i64 bx, .int .i64 cy, .int .i64 lo, .int .i64 hi, .slice an nn cn, .slice al nl cl]] #[]] 126 (b := w2.heap.size + 1) (by simp)
    have P1 := N1.to (below_one (w2.alloc (.cells #[.slice am nm cm, .int .i64 q, .int .i64 bx, .int .i64 cy, .slice am nm cm, .int .i64 q, .int .i64 bx, .int .i64 cy, .int .i64 lo, .int .i64 hi, .slice an nn cn, .slice al nl cl] 81)) (.cells #[.func (.func 100) #[.agg #[.slice am nm cm, .int .i64 q, .int .i64 bx, .int .i64 cy, .slice am nm cm, .int .i64 q, .int .i64 bx, .int .i64 cy, .int .i64 lo, .int .i64 hi, .slice an nn cn, .slice al nl cl]] #[], .func (.func 101) #[.agg #[.slice am nm cm, .int .i64 q, .int .i64 bx, .int .i64 cy, .slice am nm cm, .int .i64 q, .int .i64 bx, .int .i64 cy, .int .i64 lo, .int .i64 hi, .slice an nn cn, .slice al nl cl]] #[], .func (.func 102) #[.agg #[.slice am nm cm, .int .i64 q, .int .i64 bx, .int .i64 cy, .slice am nm cm, .int .i64 q, .int .i64 bx, .int .i64 cy, .int .i64 lo, .int .i64 hi, .slice an nn cn, .slice al nl cl]] #[]] 126))
    have P2 := N2.to (below_one (w2.alloc (.cells #[.slice am nm cm, .int .i64 q, .int .i64 bx, .int .i64 cy, .slice am nm cm, .int .i64 q, .int .i64 bx, .int .i64 cy, .int .i64 lo, .int .i64 hi, .slice an nn cn, .slice al nl cl] 81)) (.cells #[.func (.func 100) #[.agg #[.slice am nm cm, .int .i64 q, .int .i64 bx, .int .i64 cy, .slice am nm cm, .int .i64 q, .int .i64 bx, .int .i64 cy, .int .i64 lo, .int .i64 hi, .slice an nn cn, .slice al nl cl]] #[], .func (.func 101) #[.agg #[.slice am nm cm, .int .i64 q, .int .i64 bx, .int .i64 cy, .slice am nm cm, .int .i64 q, .int .i64 bx, .int .i64 cy, .int .i64 lo, .int .i64 hi, .slice an nn cn, .slice al nl cl]] #[], .func (.func 102) #[.agg #[.slice am nm cm, .int .i64 q, .int .i64 bx, .int .i64 cy, .slice am nm cm, .int .i64 q, .int .i64 bx, .int .i64 cy, .int .i64 lo, .int .i64 hi, .slice an nn cn, .slice al nl cl]] #[]] 126))
    have z2 : w.heap.size + 1 + 1 < w2.heap.size := M2.lt
    go_wp2
    clear d0 d1 d2 d3 d4 d5 d6 d7 d8 d9 d10 d11 N0 N1 N2 N3 M0 M1 M2 b2 b3
    generalize (w2.alloc (.cells #[.slice am nm cm, .int .i64 q, .int .i64 bx, .int .i64 cy, .slice am nm cm, .int .i64 q, .int .i64 bx, .int .i64 cy, .int .i64 lo, .int .i64 hi, .slice an nn cn, .slice al nl cl] 81)).alloc (.cells #[.func (.func 100) #[.agg #[.slice am nm cm, .int .i64 q, .int .i64 bx, .int .i64 cy, .slice am nm cm, .int .i64 q, .int .i64 bx, .int .i64 cy, .int .i64 lo, .int .i64 hi, .slice an nn cn, .slice al nl cl]] #[], .func (.func 101) #[.agg #[.slice am nm cm, .int .i64 q, .int .i64 bx, .int .i64 cy, .slice am nm cm, .int .i64 q, .int .i64 bx, .int .i64 cy, .int .i64 lo, .int .i64 hi, .slice an nn cn, .slice al nl cl]] #[], .func (.func 102) #[.agg #[.slice am nm cm, .int .i64 q, .int .i64 bx, .int .i64 cy, .slice am nm cm, .int .i64 q, .int .i64 bx, .int .i64 cy, .int .i64 lo, .int .i64 hi, .slice an nn cn, .slice al nl cl]] #[]] 126) = U at *
    have zU : w2.heap.size ≤ U.heap.size := by have := P4.lt; omega
    have HP1 := Lib.hid P1
    have HP2 := Lib.hid P2
    have HP4 := Lib.hid P4
    clear P1 P2 P4 hmf
    generalize w2.heap.size = B at *
    have HQ1 := HP1.out
    have HQ2 := HP2.out
    have HQ4 := HP4.out
    go_loopw [25] (fun i wr => ∃ (k : Nat) (I : Int) (ak : Option Addr) (ck : Nat) (len : Nat), k ≤ 3 ∧ I = k ∧ i = .int .i64 I ∧ len = (prM zs q bx cy lo hi ps rs k).length ∧ prT zs q bx cy lo hi ps rs k = true ∧ Below w.heap.size w wr ∧ B ≤ wr.heap.size ∧ Blk wr (w.heap.size + 1) #[.slice ak len ck] 26 ∧ Blk wr (w.heap.size + 1 + 1) #[.slice none 0 0] 26 ∧ Blk wr (B + 1) #[.func (.func 100) #[.agg #[.slice am nm cm, .int .i64 q, .int .i64 bx, .int .i64 cy, .slice am nm cm, .int .i64 q, .int .i64 bx, .int .i64 cy, .int .i64 lo, .int .i64 hi, .slice an nn cn, .slice al nl cl]] #[], .func (.func 101) #[.agg #[.slice am nm cm, .int .i64 q, .int .i64 bx, .int .i64 cy, .slice am nm cm, .int .i64 q, .int .i64 bx, .int .i64 cy, .int .i64 lo, .int .i64 hi, .slice an nn cn, .slice al nl cl]] #[], .func (.func 102) #[.agg #[.slice am nm cm, .int .i64 q, .int .i64 bx, .int .i64 cy, .slice am nm cm, .int .i64 q, .int .i64 bx, .int .i64 cy, .int .i64 lo, .int .i64 hi, .slice an nn cn, .slice al nl cl]] #[]] 126 ∧ HsAt wr ak (prM zs q bx cy lo hi ps rs k) ∧ (ak = none → len = 0 ∧ ck = 0) ∧ (0 < k → wr.ownsRow B 39 3 (.slice ak len ck) len (flat (prM zs q bx cy lo hi ps rs k)))) (fun i _ => 3 - (intOf i).toNat)
    case atStart => exact ⟨0, 0, a, ca, rs.length, by omega, rfl, rfl, rfl, rfl, b4, zU, HQ1, HQ2, HQ4, HG.out.below b4, HZ.out, fun h => absurd h (by omega)⟩
    case round =>
      obtain ⟨k, I, ak, ck, len, hk, hI, rfl, hlen, hT, hbw, hzB, h1, h2, h4, hat, hnil, hown⟩ := hrel
      by_cases h3 : k = 3
      · subst h3
        obtain rfl : I = 3 := by omega
        have HO := Lib.hid (hown (by omega))
        have HN := Lib.hid (pr_end hr hT)
        have e1 := h1.cell0 (i := 0) (v := .slice ak len ck) rfl
        have e2 := h2.cell0 (i := 0) (v := .slice none 0 0) rfl
        have f2 := h2.free 0
        have HB := Lib.hid hbw
        have HL := Lib.hid hlen
        clear hk hI hlen hT hbw h1 h2 h4 hat hnil hown hr
        go_wp2_with fail
        have HE := HL.out
        subst HE
        exact bodyPost_ret (v := .tuple #[.agg #[.slice ak _ ck], .bool true]) (by simp [results, Tryz.results51, go_sem, e2]) rfl (AnsR.yes HN.out.1.symm HN.out.2 (own_base (own_far (p := ⟨w.heap.size + 1 + 1, 0, none⟩) HO.out (by simp only; omega) _) (by omega)) (HB.out.setCell (p := ⟨w.heap.size + 1 + 1, 0, none⟩) (Nat.le_add_right _ 2) _))
      · have e1 := h1.cell0 (i := 0) (v := .slice ak len ck) rfl
        have HT := Lib.hid hT
        have HB := Lib.hid hbw
        have HH1 := Lib.hid h1
        have HH2 := Lib.hid h2
        have HH4 := Lib.hid h4
        have HAT := Lib.hid hat
        have HNI := Lib.hid hnil
        have HLN := Lib.hid hlen
        clear hT hbw h1 h2 h4 hat hnil hown
        obtain h | h | h : k = 0 ∨ k = 1 ∨ k = 2 := by omega
        · subst h
          obtain rfl : I = 0 := by omega
          obtain rfl : len = (rs).length := HLN.out
          have e4 := HH4.out.cell0 (i := 0) (v := .func (.func 100) #[.agg #[.slice am nm cm, .int .i64 q, .int .i64 bx, .int .i64 cy, .slice am nm cm, .int .i64 q, .int .i64 bx, .int .i64 cy, .int .i64 lo, .int .i64 hi, .slice an nn cn, .slice al nl cl]] #[]) rfl
          clear hk h3 hlen hI
          go_wp2_with fail
          refine (H0.out wr _ _ HB.out HNI.out HAT.out).mono ?_
          rintro e w4 ⟨ag, cg, rfl, ho, bl4⟩
          have bY := below_bx2 bl4 (.cells #[.slice ag (eroL rs ps).length cg] 26)
          have HO := Lib.hid (own_below ho (below_one w4 (.cells #[.slice ag (eroL rs ps).length cg] 26)))
          have N1 := blk_new w4 #[.slice ag (eroL rs ps).length cg] 26 rfl
          have Q1 := HH1.out.to bY
          have Q2 := HH2.out.to bY
          have Q4 := Lib.hid (HH4.out.to bY)
          have b5 := below_to HB.out bY
          have z5 : B ≤ (w4.alloc (.cells #[.slice ag (eroL rs ps).length cg] 26)).heap.size := Nat.le_trans hzB bY.size
          have lw := HH1.out.lt
          clear ho bl4 e1 e4 HH1 HH2 HH4 HAT HNI HB
          cases hB : eroB rs ps with
          | false =>
            have HN := Lib.hid (pr_f0 (zs := zs) (q := q) (qs := qs) (rs := rs) hr HT.out hB)
            have q2 := Q2.cell0 (i := 0) (v := .slice none 0 0) rfl
            have f2 := Q2.free 0
            clear hB hr HO Q1 Q4 N1 HT
            go_wp2_with fail
            exact bodyPost_ret (v := .tuple #[.agg #[.slice none 0 0], .bool false]) (by simp [results, Tryz.results51, go_sem, q2]) rfl (AnsR.no HN.out.1 HN.out.2 (b5.setCell (p := ⟨w.heap.size + 1 + 1, 0, none⟩) (Nat.le_add_right _ 2) _))
          | true =>
            have HT2 := Lib.hid (pr_t0 (zs := zs) (q := q) (bx := bx) (cy := cy) (lo := lo) (hi := hi) HT.out hB)
            have n0 := N1.cell0 (i := 0) rfl
            have q1 := Q1.cell0 (i := 0) rfl
            have f1 := Q1.free 0
            have HX1 := Lib.hid (heap_set1 (.slice ag (eroL rs ps).length cg) Q1)
            have HX2 := Lib.hid (blk_far Q2 (p := ⟨w.heap.size + 1, 0, none⟩) (.slice ag (eroL rs ps).length cg) (by simp))
            have HX4 := Lib.hid (blk_far Q4.out (p := ⟨w.heap.size + 1, 0, none⟩) (.slice ag (eroL rs ps).length cg) (by simp only; omega))
            have HO2 := Lib.hid (own_far (p := ⟨w.heap.size + 1, 0, none⟩) (own_base HO.out hzB) (by simp only; omega) (.slice ag (eroL rs ps).length cg))
            have HB5 := Lib.hid (b5.setCell (p := ⟨w.heap.size + 1, 0, none⟩) (Nat.le_add_right _ _) (.slice ag (eroL rs ps).length cg))
            clear hB HO Q2 Q4 HT
            go_wp2
            go_roundw
            case rel => exact ⟨1, 1, ag, cg, (eroL rs ps).length, by omega, rfl, by go_num, rfl, HT2.out, HB5.out, by simpa using z5, HX1.out, HX2.out, HX4.out, own_hs HO2.out, own_nil HO2.out, fun _ => HO2.out⟩
            case measure => simp [intOf]
        · subst h
          obtain rfl : I = 1 := by omega
          obtain rfl : len = (eroL rs ps).length := HLN.out
          have e4 := HH4.out.cell0 (i := 1) (v := .func (.func 101) #[.agg #[.slice am nm cm, .int .i64 q, .int .i64 bx, .int .i64 cy, .slice am nm cm, .int .i64 q, .int .i64 bx, .int .i64 cy, .int .i64 lo, .int .i64 hi, .slice an nn cn, .slice al nl cl]] #[]) rfl
          clear hk h3 hlen hI
          go_wp2_with fail
          refine (H1.out wr _ _ HB.out HNI.out HAT.out).mono ?_
          rintro e w4 ⟨ag, cg, rfl, ho, bl4⟩
          have bY := below_bx2 bl4 (.cells #[.slice ag (gwL (eroL rs ps) bx cy lo hi).length cg] 26)
          have HO := Lib.hid (own_below ho (below_one w4 (.cells #[.slice ag (gwL (eroL rs ps) bx cy lo hi).length cg] 26)))
          have N1 := blk_new w4 #[.slice ag (gwL (eroL rs ps) bx cy lo hi).length cg] 26 rfl
          have Q1 := HH1.out.to bY
          have Q2 := HH2.out.to bY
          have Q4 := Lib.hid (HH4.out.to bY)
          have b5 := below_to HB.out bY
          have z5 : B ≤ (w4.alloc (.cells #[.slice ag (gwL (eroL rs ps) bx cy lo hi).length cg] 26)).heap.size := Nat.le_trans hzB bY.size
          have lw := HH1.out.lt
          clear ho bl4 e1 e4 HH1 HH2 HH4 HAT HNI HB
          cases hB : gwB (eroL rs ps) bx cy lo hi with
          | false =>
            have HN := Lib.hid (pr_f1 (zs := zs) (q := q) (qs := qs) (rs := rs) hr HT.out hB)
            have q2 := Q2.cell0 (i := 0) (v := .slice none 0 0) rfl
            have f2 := Q2.free 0
            clear hB hr HO Q1 Q4 N1 HT
            go_wp2_with fail
            exact bodyPost_ret (v := .tuple #[.agg #[.slice none 0 0], .bool false]) (by simp [results, Tryz.results51, go_sem, q2]) rfl (AnsR.no HN.out.1 HN.out.2 (b5.setCell (p := ⟨w.heap.size + 1 + 1, 0, none⟩) (Nat.le_add_right _ 2) _))
          | true =>
            have HT2 := Lib.hid (pr_t1 (zs := zs) (q := q) (bx := bx) (cy := cy) (lo := lo) (hi := hi) HT.out hB)
            have n0 := N1.cell0 (i := 0) rfl
            have q1 := Q1.cell0 (i := 0) rfl
            have f1 := Q1.free 0
            have HX1 := Lib.hid (heap_set1 (.slice ag (gwL (eroL rs ps) bx cy lo hi).length cg) Q1)
            have HX2 := Lib.hid (blk_far Q2 (p := ⟨w.heap.size + 1, 0, none⟩) (.slice ag (gwL (eroL rs ps) bx cy lo hi).length cg) (by simp))
            have HX4 := Lib.hid (blk_far Q4.out (p := ⟨w.heap.size + 1, 0, none⟩) (.slice ag (gwL (eroL rs ps) bx cy lo hi).length cg) (by simp only; omega))
            have HO2 := Lib.hid (own_far (p := ⟨w.heap.size + 1, 0, none⟩) (own_base HO.out hzB) (by simp only; omega) (.slice ag (gwL (eroL rs ps) bx cy lo hi).length cg))
            have HB5 := Lib.hid (b5.setCell (p := ⟨w.heap.size + 1, 0, none⟩) (Nat.le_add_right _ _) (.slice ag (gwL (eroL rs ps) bx cy lo hi).length cg))
            clear hB HO Q2 Q4 HT
            go_wp2
            go_roundw
            case rel => exact ⟨2, 2, ag, cg, (gwL (eroL rs ps) bx cy lo hi).length, by omega, rfl, by go_num, rfl, HT2.out, HB5.out, by simpa using z5, HX1.out, HX2.out, HX4.out, own_hs HO2.out, own_nil HO2.out, fun _ => HO2.out⟩
            case measure => simp [intOf]
        · subst h
          obtain rfl : I = 2 := by omega
          obtain rfl : len = (prG bx cy lo hi ps rs).length := HLN.out
          have e4 := HH4.out.cell0 (i := 2) (v := .func (.func 102) #[.agg #[.slice am nm cm, .int .i64 q, .int .i64 bx, .int .i64 cy, .slice am nm cm, .int .i64 q, .int .i64 bx, .int .i64 cy, .int .i64 lo, .int .i64 hi, .slice an nn cn, .slice al nl cl]] #[]) rfl
          clear hk h3 hlen hI
          go_wp2_with fail
          refine (H2.out wr _ _ HB.out HNI.out HAT.out).mono ?_
          rintro e w4 ⟨ag, cg, rfl, ho, bl4⟩
          have bY := below_bx2 bl4 (.cells #[.slice ag (pbkL (prG bx cy lo hi ps rs) zs q).length cg] 26)
          have HO := Lib.hid (own_below ho (below_one w4 (.cells #[.slice ag (pbkL (prG bx cy lo hi ps rs) zs q).length cg] 26)))
          have N1 := blk_new w4 #[.slice ag (pbkL (prG bx cy lo hi ps rs) zs q).length cg] 26 rfl
          have Q1 := HH1.out.to bY
          have Q2 := HH2.out.to bY
          have Q4 := Lib.hid (HH4.out.to bY)
          have b5 := below_to HB.out bY
          have z5 : B ≤ (w4.alloc (.cells #[.slice ag (pbkL (prG bx cy lo hi ps rs) zs q).length cg] 26)).heap.size := Nat.le_trans hzB bY.size
          have lw := HH1.out.lt
          clear ho bl4 e1 e4 HH1 HH2 HH4 HAT HNI HB
          cases hB : pbkB (prG bx cy lo hi ps rs) zs q with
          | false =>
            have HN := Lib.hid (pr_f2 (zs := zs) (q := q) (qs := qs) (rs := rs) hr HT.out hB)
            have q2 := Q2.cell0 (i := 0) (v := .slice none 0 0) rfl
            have f2 := Q2.free 0
            clear hB hr HO Q1 Q4 N1 HT
            go_wp2_with fail
            exact bodyPost_ret (v := .tuple #[.agg #[.slice none 0 0], .bool false]) (by simp [results, Tryz.results51, go_sem, q2]) rfl (AnsR.no HN.out.1 HN.out.2 (b5.setCell (p := ⟨w.heap.size + 1 + 1, 0, none⟩) (Nat.le_add_right _ 2) _))
          | true =>
            have HT2 := Lib.hid (pr_t2 (zs := zs) (q := q) (bx := bx) (cy := cy) (lo := lo) (hi := hi) HT.out hB)
            have n0 := N1.cell0 (i := 0) rfl
            have q1 := Q1.cell0 (i := 0) rfl
            have f1 := Q1.free 0
            have HX1 := Lib.hid (heap_set1 (.slice ag (pbkL (prG bx cy lo hi ps rs) zs q).length cg) Q1)
            have HX2 := Lib.hid (blk_far Q2 (p := ⟨w.heap.size + 1, 0, none⟩) (.slice ag (pbkL (prG bx cy lo hi ps rs) zs q).length cg) (by simp))
            have HX4 := Lib.hid (blk_far Q4.out (p := ⟨w.heap.size + 1, 0, none⟩) (.slice ag (pbkL (prG bx cy lo hi ps rs) zs q).length cg) (by simp only; omega))
            have HO2 := Lib.hid (own_far (p := ⟨w.heap.size + 1, 0, none⟩) (own_base HO.out hzB) (by simp only; omega) (.slice ag (pbkL (prG bx cy lo hi ps rs) zs q).length cg))
            have HB5 := Lib.hid (b5.setCell (p := ⟨w.heap.size + 1, 0, none⟩) (Nat.le_add_right _ _) (.slice ag (pbkL (prG bx cy lo hi ps rs) zs q).length cg))
            clear hB HO Q2 Q4 HT
            go_wp2
            go_roundw
            case rel => exact ⟨3, 3, ag, cg, (pbkL (prG bx cy lo hi ps rs) zs q).length, by omega, rfl, by go_num, rfl, HT2.out, HB5.out, by simpa using z5, HX1.out, HX2.out, HX4.out, own_hs HO2.out, own_nil HO2.out, fun _ => HO2.out⟩
            case measure => simp [intOf]
end Go.Proofs.YtdjjncofahnaaaaGreat
