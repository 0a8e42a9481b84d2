/- RobustPart of the program and of the model, over the translation. PreRegion of the program, over the translation. PreRegion of the model, and KeepRegion of both, over the translation. -/
import Derived.Test.YtibkmhmeoelpdaaGreatVc
import Derived.Test.YtibkmhmeoelpdaaGreatKd
import Derived.Test.YtibkmhmeoelpdaaGreatEs
import Derived.Test.YtibkmhmeoelpdaaGreatMf
import Derived.Test.YtibkmhmeoelpdaaGreatGv
import Derived.Test.YtibkmhmeoelpdaaGreatPc
namespace Go.Proofs.YtibkmhmeoelpdaaGreat
open Go.RowKit
open Geo (H3)

theorem room9 {V X : World} {B C : Nat} {a0 a1 a2 a3 a4 a5 a6 a7 b0 : Value} {T U : TypeId} (h : Blk V B #[a0, a1, a2, a3, a4, a5, a6, a7] T) (k : Blk V C #[b0] U) (hb : Below V.heap.size V X) : X.cell? ⟨B, 0, none⟩ = some a0 ∧ X.cell? ⟨B, 1, none⟩ = some a1 ∧ X.cell? ⟨B, 2, none⟩ = some a2 ∧ X.cell? ⟨B, 3, none⟩ = some a3 ∧ X.cell? ⟨B, 4, none⟩ = some a4 ∧ X.cell? ⟨B, 5, none⟩ = some a5 ∧ X.cell? ⟨B, 6, none⟩ = some a6 ∧ X.cell? ⟨B, 7, none⟩ = some a7 ∧ X.cell? ⟨C, 0, none⟩ = some b0 :=
  ⟨(h.to hb).c8_0, (h.to hb).c8_1, (h.to hb).c8_2, (h.to hb).c8_3, (h.to hb).c8_4, (h.to hb).c8_5, (h.to hb).c8_6, (h.to hb).c8_7, (k.to hb).cell0 rfl⟩
theorem room9s {V X : World} {B C : Nat} {p : Addr} {u : Value} {a0 a1 a2 a3 a4 a5 a6 a7 b0 : Value} {T U : TypeId} (h : Blk V B #[a0, a1, a2, a3, a4, a5, a6, a7] T) (k : Blk V C #[b0] U) (n1 : p.block ≠ B) (n2 : p.block ≠ C) (hb : Below V.heap.size V X) : (X.setCell p u).cell? ⟨B, 0, none⟩ = some a0 ∧ (X.setCell p u).cell? ⟨B, 1, none⟩ = some a1 ∧ (X.setCell p u).cell? ⟨B, 2, none⟩ = some a2 ∧ (X.setCell p u).cell? ⟨B, 3, none⟩ = some a3 ∧ (X.setCell p u).cell? ⟨B, 4, none⟩ = some a4 ∧ (X.setCell p u).cell? ⟨B, 5, none⟩ = some a5 ∧ (X.setCell p u).cell? ⟨B, 6, none⟩ = some a6 ∧ (X.setCell p u).cell? ⟨B, 7, none⟩ = some a7 ∧ (X.setCell p u).cell? ⟨C, 0, none⟩ = some b0 :=
  ⟨(blk_far (h.to hb) u n1).c8_0, (blk_far (h.to hb) u n1).c8_1, (blk_far (h.to hb) u n1).c8_2, (blk_far (h.to hb) u n1).c8_3, (blk_far (h.to hb) u n1).c8_4, (blk_far (h.to hb) u n1).c8_5, (blk_far (h.to hb) u n1).c8_6, (blk_far (h.to hb) u n1).c8_7, (blk_far (k.to hb) u n2).cell0 rfl⟩
set_option maxRecDepth 100000 in
set_option maxHeartbeats 1600000 in
theorem impl_rp (am : Option Addr) (nm cm : Nat) (zs : List Int) (q bx cy lo hi : Int) (an : Option Addr) (nn cn : Nat) (ps : List H3) (al : Option Addr) (nl cl : Nat) (qs : List H3) (a : Option Addr) (n ca : Nat) (rs : List H3) (w : World) (hA : RAt w am nm zs an nn ps al nl qs) (h64 : R64 q bx cy lo hi ps qs) (hle : nm + nn + nl ≤ 1048576) (hl : rs.length = n) (hn : n ≤ 1048576) (hr64 : ∀ h ∈ rs, In64 h) (hz : a = none → n = 0 ∧ ca = 0) (hG : HsAt w a rs) :
    Calls Tryz.prog 19 #[.agg #[.slice am nm cm, .int .i64 q, .int .i64 bx, .int .i64 cy, .int .i64 lo, .int .i64 hi, .slice an nn cn, .slice al nl cl], .agg #[.slice a n ca]] w (AnsR w (rpL zs q bx cy lo hi ps qs rs) (rpB zs q bx cy lo hi ps qs rs)) := by
  have bV := below_bx2 (below_bx2 (below_one w (.cells #[.slice am nm cm, .int .i64 q, .int .i64 bx, .int .i64 cy, .int .i64 lo, .int .i64 hi, .slice an nn cn, .slice al nl cl] 42)) (.cells #[.slice a n ca] 40)) (.cells #[.slice none 0 0] 40)
  have K0 := ((blk_new w #[.slice am nm cm, .int .i64 q, .int .i64 bx, .int .i64 cy, .int .i64 lo, .int .i64 hi, .slice an nn cn, .slice al nl cl] 42 (b := w.heap.size) (by simp)).to (below_one _ (.cells #[.slice a n ca] 40))).to (below_one _ (.cells #[.slice none 0 0] 40))
  have K1 := (blk_new (w.alloc (.cells #[.slice am nm cm, .int .i64 q, .int .i64 bx, .int .i64 cy, .int .i64 lo, .int .i64 hi, .slice an nn cn, .slice al nl cl] 42)) #[.slice a n ca] 40 (b := w.heap.size + 1) (by simp)).to (below_one _ (.cells #[.slice none 0 0] 40))
  have K2 := blk_new ((w.alloc (.cells #[.slice am nm cm, .int .i64 q, .int .i64 bx, .int .i64 cy, .int .i64 lo, .int .i64 hi, .slice an nn cn, .slice al nl cl] 42)).alloc (.cells #[.slice a n ca] 40)) #[.slice none 0 0] 40 (b := w.heap.size + 1 + 1) (by simp)
  have HR := Lib.hid (fun V (h : Below w.heap.size w V) => impl_room am nm cm zs q bx cy lo hi an nn cn ps al nl cl qs V _ rfl (hA.below h) h64 hle)
  have HW := Lib.hid (fun V => impl_wm am nm cm q bx cy lo hi an nn cn al nl cl V)
  have HE := Lib.hid (fun V (h : Below w.heap.size w V) => impl_bno am nm cm zs q bx cy lo hi an nn cn ps al nl cl qs a n ca rs V (hA.below h) h64 hle hl hn hr64 hz (hG.below h))
  clear hA h64 hl hn hr64 hz hG
  have c0_0 := K0.c8_0
  have c0_1 := K0.c8_1
  have c0_2 := K0.c8_2
  have c0_3 := K0.c8_3
  have c0_4 := K0.c8_4
  have c0_5 := K0.c8_5
  have c0_6 := K0.c8_6
  have c0_7 := K0.c8_7
  go_enter Tryz.func19, Tryz.ntmps19
  go_wp2_with fail
  clear c0_0 c0_1 c0_2 c0_3 c0_4 c0_5 c0_6 c0_7
  generalize (((w.alloc (.cells #[.slice am nm cm, .int .i64 q, .int .i64 bx, .int .i64 cy, .int .i64 lo, .int .i64 hi, .slice an nn cn, .slice al nl cl] 42)).alloc (.cells #[.slice a n ca] 40)).alloc (.cells #[.slice none 0 0] 40)) = V at *
  refine (HR.out _ bV).mono ?_
  rintro e w1 ⟨rfl, bl1⟩
  have b1 := below_to bV bl1
  have L0 := K0.to bl1
  have L1 := K1.to bl1
  have L2 := K2.to bl1
  clear bV bl1 K0 K1 K2 HR
  cases hr : rmB zs q bx cy lo hi ps qs with
  | false =>
    have HN := Lib.hid (rp_no (rs := rs) hr)
    clear hr
    have q2 := L2.cell0 (i := 0) (v := .slice none 0 0) rfl
    have f2 := L2.free 0
    go_wp2_with fail
    exact bodyPost_ret (v := .tuple #[.agg #[.slice none 0 0], .bool false]) (by simp [results, Tryz.results19, go_sem, q2]) rfl (AnsR.no HN.out.1 HN.out.2 (b1.setCell (p := ⟨w.heap.size + 1 + 1, 0, none⟩) (Nat.le_add_right _ 2) _))
  | true =>
    have HN := Lib.hid (rp_yes (rs := rs) hr)
    clear hr
    go_wp2
    go_region_held3 (fun w' => w'.cell? ⟨w.heap.size, 0, none⟩ = some (.slice am nm cm) ∧ w'.cell? ⟨w.heap.size, 1, none⟩ = some (.int .i64 q) ∧ w'.cell? ⟨w.heap.size, 2, none⟩ = some (.int .i64 bx) ∧ w'.cell? ⟨w.heap.size, 3, none⟩ = some (.int .i64 cy) ∧ w'.cell? ⟨w.heap.size, 4, none⟩ = some (.int .i64 lo) ∧ w'.cell? ⟨w.heap.size, 5, none⟩ = some (.int .i64 hi) ∧ w'.cell? ⟨w.heap.size, 6, none⟩ = some (.slice an nn cn) ∧ w'.cell? ⟨w.heap.size, 7, none⟩ = some (.slice al nl cl) ∧ w'.cell? ⟨w.heap.size + 1, 0, none⟩ = some (.slice a n ca))
      (first | (refine room9s L0 L1 ?_ ?_ ?_; (focus (simp only; omega)); (focus (simp only; omega)); repeat (first | exact Below.refl _ _ | refine below_drw ?_ | refine below_bx2 ?_ _ | refine below_to ?_ (by assumption))) | (refine room9 L0 L1 ?_; repeat (first | exact Below.refl _ _ | refine below_drw ?_ | refine below_bx2 ?_ _ | refine below_to ?_ (by assumption))))
      (first | (go_at_call 56; (with_reducible refine (HW.out _).mono ?_); rintro e w2 ⟨rfl, bl2⟩) | (go_at_call 57; (with_reducible refine (HE.out _ ?_).mono ?_); (focus (repeat (first | exact b1 | refine below_drw ?_ | refine below_bx2 ?_ _ | refine below_to ?_ (by assumption)))); rintro e w3 ⟨ag, cg, rfl, ho, bl3⟩; have hX : Below w1.heap.size w1 w3 := (by refine below_to ?_ bl3; repeat (first | exact Below.refl _ _ | refine below_drw ?_ | refine below_bx2 ?_ _ | refine below_to ?_ (by assumption))); have q2 := (L2.to hX).cell0 (i := 0) (v := .slice none 0 0) rfl; have f2 := (L2.to hX).free 0; have HO := Lib.hid ho; have HB3 := Lib.hid bl3; clear ho))
    all_goals
      have hs2 := bl2.size
      (try simp at hs2)
      have lt2 := L2.lt
      have HF := Lib.hid (AnsR.yes (w := w) (L := rpL zs q bx cy lo hi ps qs rs) (b := rpB zs q bx cy lo hi ps qs rs) HN.out.1.symm HN.out.2 (own_base (own_far (p := ⟨w.heap.size + 1 + 1, 0, none⟩) HO.out (by first | (simp only; omega) | (simp; omega)) (.slice ag (eroL rs ps).length cg)) (by first | omega | (simp; omega))) ((below_to b1 hX).setCell (p := ⟨w.heap.size + 1 + 1, 0, none⟩) (Nat.le_add_right _ 2) _))
      clear f2 HO HB3 hX bl2 bl3 hs2 lt2 HN HE HW L0 L1 L2 b1
      generalize (eroL rs ps).length = len at *
      generalize eroB rs ps = R at *
      go_wp2_with fail
      exact bodyPost_ret (v := .tuple #[.agg #[.slice ag len cg], .bool R]) (by simp [results, Tryz.results19, go_sem, q2]) rfl HF.out
open Go.RowKit
open Geo (H3)

/-- the list and the answer behind the first k steps -/
noncomputable def prM (zs : List Int) (q bx cy lo hi : Int) (ps rs : List H3) : Nat → List H3
  | 0 => rs
  | 1 => eroL rs ps
  | 2 => prG bx cy lo hi ps rs
  | _ => pbkL (prG bx cy lo hi ps rs) zs q
noncomputable def prT (zs : List Int) (q bx cy lo hi : Int) (ps rs : List H3) : Nat → Bool
  | 0 => true
  | 1 => eroB rs ps
  | 2 => eroB rs ps && gwB (eroL rs ps) bx cy lo hi
  | _ => eroB rs ps && gwB (eroL rs ps) bx cy lo hi && pbkB (prG bx cy lo hi ps rs) zs q
theorem pr_f0 {zs : List Int} {q bx cy lo hi : Int} {ps qs rs : List H3} (_ : rmB zs q bx cy lo hi ps qs = true) (_ : prT zs q bx cy lo hi ps rs 0 = true) (h : eroB rs ps = false) : prL zs q bx cy lo hi ps qs rs = [] ∧ prB zs q bx cy lo hi ps qs rs = false :=
  pr_no (by rw [h]; simp)
theorem pr_f1 {zs : List Int} {q bx cy lo hi : Int} {ps qs rs : List H3} (_ : rmB zs q bx cy lo hi ps qs = true) (_ : prT zs q bx cy lo hi ps rs 1 = true) (h : gwB (eroL rs ps) bx cy lo hi = false) : prL zs q bx cy lo hi ps qs rs = [] ∧ prB zs q bx cy lo hi ps qs rs = false :=
  pr_no (by rw [h]; simp)
theorem pr_f2 {zs : List Int} {q bx cy lo hi : Int} {ps qs rs : List H3} (_ : rmB zs q bx cy lo hi ps qs = true) (_ : prT zs q bx cy lo hi ps rs 2 = true) (h : pbkB (prG bx cy lo hi ps rs) zs q = false) : prL zs q bx cy lo hi ps qs rs = [] ∧ prB zs q bx cy lo hi ps qs rs = false := by
  have e : prB zs q bx cy lo hi ps qs rs = false := by unfold prB; rw [h]; simp
  exact ⟨by unfold prL; rw [if_neg (by rw [e]; simp)], e⟩
theorem pr_t0 {zs : List Int} {q bx cy lo hi : Int} {ps rs : List H3} (_ : prT zs q bx cy lo hi ps rs 0 = true) (h : eroB rs ps = true) : prT zs q bx cy lo hi ps rs 1 = true := h
theorem pr_t1 {zs : List Int} {q bx cy lo hi : Int} {ps rs : List H3} (k : prT zs q bx cy lo hi ps rs 1 = true) (h : gwB (eroL rs ps) bx cy lo hi = true) : prT zs q bx cy lo hi ps rs 2 = true := by
  show (eroB rs ps && gwB (eroL rs ps) bx cy lo hi) = true
  rw [h, show eroB rs ps = true from k]; rfl
theorem pr_t2 {zs : List Int} {q bx cy lo hi : Int} {ps rs : List H3} (k : prT zs q bx cy lo hi ps rs 2 = true) (h : pbkB (prG bx cy lo hi ps rs) zs q = true) : prT zs q bx cy lo hi ps rs 3 = true := by
  show (eroB rs ps && gwB (eroL rs ps) bx cy lo hi && pbkB (prG bx cy lo hi ps rs) zs q) = true
  rw [h, show (eroB rs ps && gwB (eroL rs ps) bx cy lo hi) = true from k]; rfl
theorem pr_end {zs : List Int} {q bx cy lo hi : Int} {ps qs rs : List H3} (h : rmB zs q bx cy lo hi ps qs = true) (k : prT zs q bx cy lo hi ps rs 3 = true) : prL zs q bx cy lo hi ps qs rs = prM zs q bx cy lo hi ps rs 3 ∧ prB zs q bx cy lo hi ps qs rs = true := by
  have e : prB zs q bx cy lo hi ps qs rs = true := by
    unfold prB
    have k : (eroB rs ps && gwB (eroL rs ps) bx cy lo hi && pbkB (prG bx cy lo hi ps rs) zs q) = true := k
    simp only [Bool.and_eq_true] at k ⊢
    exact ⟨⟨⟨h, k.1.1⟩, k.1.2⟩, k.2⟩
  exact ⟨by unfold prL; rw [if_pos e]; rfl, e⟩
set_option maxRecDepth 100000 in
set_option maxHeartbeats 1600000 in
theorem impl_pr (am : Option Addr) (nm cm : Nat) (zs : List Int) (q bx cy lo hi : Int) (an : Option Addr) (nn cn : Nat) (ps : List H3) (al : Option Addr) (nl cl : Nat) (qs : List H3) (a : Option Addr) (n ca : Nat) (rs : List H3) (w : World) (hA : RAt w am nm zs an nn ps al nl qs) (h64 : R64 q bx cy lo hi ps qs) (hle : nm + nn + nl ≤ 1048576) (hl : rs.length = n) (hn : n ≤ 1048576) (hr64 : ∀ h ∈ rs, In64 h) (hz : a = none → n = 0 ∧ ca = 0) (hG : HsAt w a rs) :
    Calls Tryz.prog 18 #[.agg #[.slice am nm cm, .int .i64 q, .int .i64 bx, .int .i64 cy, .int .i64 lo, .int .i64 hi, .slice an nn cn, .slice al nl cl], .agg #[.slice a n ca]] w (AnsR w (prL zs q bx cy lo hi ps qs rs) (prB zs q bx cy lo hi ps qs rs)) := by
  subst hl
  have bV := below_bx2 (below_bx2 (below_one w (.cells #[.slice am nm cm, .int .i64 q, .int .i64 bx, .int .i64 cy, .int .i64 lo, .int .i64 hi, .slice an nn cn, .slice al nl cl] 42)) (.cells #[.slice a rs.length ca] 40)) (.cells #[.slice none 0 0] 40)
  have K0 := ((blk_new w #[.slice am nm cm, .int .i64 q, .int .i64 bx, .int .i64 cy, .int .i64 lo, .int .i64 hi, .slice an nn cn, .slice al nl cl] 42 (b := w.heap.size) (by simp)).to (below_one _ (.cells #[.slice a rs.length ca] 40))).to (below_one _ (.cells #[.slice none 0 0] 40))
  have K1 := (blk_new (w.alloc (.cells #[.slice am nm cm, .int .i64 q, .int .i64 bx, .int .i64 cy, .int .i64 lo, .int .i64 hi, .slice an nn cn, .slice al nl cl] 42)) #[.slice a rs.length ca] 40 (b := w.heap.size + 1) (by simp)).to (below_one _ (.cells #[.slice none 0 0] 40))
  have K2 := blk_new ((w.alloc (.cells #[.slice am nm cm, .int .i64 q, .int .i64 bx, .int .i64 cy, .int .i64 lo, .int .i64 hi, .slice an nn cn, .slice al nl cl] 42)).alloc (.cells #[.slice a rs.length ca] 40)) #[.slice none 0 0] 40 (b := w.heap.size + 1 + 1) (by simp)
  have hmf : ∀ (fn : Fn) (first cap : Array Value) (w : World), (Instr.makeFunc fn first cap).run Tryz.prog w = .ok (.func fn first cap) w := fun _ _ _ _ => rfl
  have HR := Lib.hid (fun V (h : Below w.heap.size w V) => impl_room am nm cm zs q bx cy lo hi an nn cn ps al nl cl qs V _ rfl (hA.below h) h64 hle)
  have HW := Lib.hid (fun V => impl_wm am nm cm q bx cy lo hi an nn cn al nl cl V)
  have H0 := Lib.hid (fun V a1 c1 (h : Below w.heap.size w V) (k0 : a1 = none → rs.length = 0 ∧ c1 = 0) (k : HsAt V a1 rs) => impl_bno am nm cm zs q bx cy lo hi an nn cn ps al nl cl qs a1 rs.length c1 rs V (hA.below h) h64 hle rfl hn hr64 k0 k)
  have H1 := Lib.hid (fun V a1 c1 (_ : Below w.heap.size w V) (k0 : a1 = none → (eroL rs ps).length = 0 ∧ c1 = 0) (k : HsAt V a1 (eroL rs ps)) => impl_bin am nm cm zs q bx cy lo hi an nn cn ps al nl cl qs a1 (eroL rs ps).length c1 (eroL rs ps) V (hA.below ‹_›) h64 hle rfl (Nat.le_trans (ero_len _ _) (by omega)) (ero_64 _ _) k0 k)
  have H2 := Lib.hid (fun V a1 c1 (_ : Below w.heap.size w V) (k0 : a1 = none → (prG bx cy lo hi ps rs).length = 0 ∧ c1 = 0) (k : HsAt V a1 (prG bx cy lo hi ps rs)) => impl_bma am nm cm zs q bx cy lo hi an nn cn ps al nl cl qs a1 (prG bx cy lo hi ps rs).length c1 (prG bx cy lo hi ps rs) V (hA.below ‹_›) h64 hle rfl (Nat.le_trans (prG_len _ _ _ _ _ _) (by omega)) (prG_64 _ _ _ _ _ _) k0 k)
  have HG := Lib.hid hG
  have HZ := Lib.hid hz
  clear hA h64 hn hr64 hz hG
  have c0_0 := K0.c8_0
  have c0_1 := K0.c8_1
  have c0_2 := K0.c8_2
  have c0_3 := K0.c8_3
  have c0_4 := K0.c8_4
  have c0_5 := K0.c8_5
  have c0_6 := K0.c8_6
  have c0_7 := K0.c8_7
  go_enter Tryz.func18, Tryz.ntmps18
  go_wp2_with fail
  clear c0_0 c0_1 c0_2 c0_3 c0_4 c0_5 c0_6 c0_7
  generalize (((w.alloc (.cells #[.slice am nm cm, .int .i64 q, .int .i64 bx, .int .i64 cy, .int .i64 lo, .int .i64 hi, .slice an nn cn, .slice al nl cl] 42)).alloc (.cells #[.slice a rs.length ca] 40)).alloc (.cells #[.slice none 0 0] 40)) = V at *
  refine (HR.out _ bV).mono ?_
  rintro e w1 ⟨rfl, bl1⟩
  have b1 := below_to bV bl1
  have L0 := K0.to bl1
  have L1 := K1.to bl1
  have L2 := K2.to bl1
  clear bV bl1 K0 K1 K2 HR
  cases hr : rmB zs q bx cy lo hi ps qs with
  | false =>
    have HN := Lib.hid (pr_no (rs := rs) (by rw [hr]; rfl : (rmB zs q bx cy lo hi ps qs && eroB rs ps && gwB (eroL rs ps) bx cy lo hi) = false))
    clear hr
    have q2 := L2.cell0 (i := 0) (v := .slice none 0 0) rfl
    have f2 := L2.free 0
    go_wp2_with fail
    exact bodyPost_ret (v := .tuple #[.agg #[.slice none 0 0], .bool false]) (by simp [results, Tryz.results18, go_sem, q2]) rfl (AnsR.no HN.out.1 HN.out.2 (b1.setCell (p := ⟨w.heap.size + 1 + 1, 0, none⟩) (Nat.le_add_right _ 2) _))
  | true =>
    have c0_0 := L0.c8_0
    have c0_1 := L0.c8_1
    have c0_2 := L0.c8_2
    have c0_3 := L0.c8_3
    have c0_4 := L0.c8_4
    have c0_5 := L0.c8_5
    have c0_6 := L0.c8_6
    have c0_7 := L0.c8_7
    go_wp2_with fail
    clear c0_0 c0_1 c0_2 c0_3 c0_4 c0_5 c0_6 c0_7
    refine (HW.out _).mono ?_
    rintro e w2 ⟨rfl, bl2⟩
    have b2 := below_to b1 bl2
    have M0 := L0.to bl2
    have M1 := L1.to bl2
    have M2 := L2.to bl2
    clear b1 bl2 L0 L1 L2 HW
    have b3 := below_bx2 b2 (.cells #[.slice am nm cm, .int .i64 q, .int .i64 bx, .int .i64 cy, .slice am nm cm, .int .i64 q, .int .i64 bx, .int .i64 cy, .int .i64 lo, .int .i64 hi, .slice an nn cn, .slice al nl cl] 91)
    have N3 := blk_new w2 #[.slice am nm cm, .int .i64 q, .int .i64 bx, .int .i64 cy, .slice am nm cm, .int .i64 q, .int .i64 bx, .int .i64 cy, .int .i64 lo, .int .i64 hi, .slice an nn cn, .slice al nl cl] 91 rfl
    have N0 := M0.to (below_one w2 (.cells #[.slice am nm cm, .int .i64 q, .int .i64 bx, .int .i64 cy, .slice am nm cm, .int .i64 q, .int .i64 bx, .int .i64 cy, .int .i64 lo, .int .i64 hi, .slice an nn cn, .slice al nl cl] 91))
    have N1 := M1.to (below_one w2 (.cells #[.slice am nm cm, .int .i64 q, .int .i64 bx, .int .i64 cy, .slice am nm cm, .int .i64 q, .int .i64 bx, .int .i64 cy, .int .i64 lo, .int .i64 hi, .slice an nn cn, .slice al nl cl] 91))
    have N2 := M2.to (below_one w2 (.cells #[.slice am nm cm, .int .i64 q, .int .i64 bx, .int .i64 cy, .slice am nm cm, .int .i64 q, .int .i64 bx, .int .i64 cy, .int .i64 lo, .int .i64 hi, .slice an nn cn, .slice al nl cl] 91))
    have d0 := N3.cell0 (i := 0) (v := .slice am nm cm) rfl
    have d1 := N3.cell0 (i := 1) (v := .int .i64 q) rfl
    have d2 := N3.cell0 (i := 2) (v := .int .i64 bx) rfl
    have d3 := N3.cell0 (i := 3) (v := .int .i64 cy) rfl
    have d4 := N3.cell0 (i := 4) (v := .slice am nm cm) rfl
    have d5 := N3.cell0 (i := 5) (v := .int .i64 q) rfl
    have d6 := N3.cell0 (i := 6) (v := .int .i64 bx) rfl
    have d7 := N3.cell0 (i := 7) (v := .int .i64 cy) rfl
    have d8 := N3.cell0 (i := 8) (v := .int .i64 lo) rfl
    have d9 := N3.cell0 (i := 9) (v := .int .i64 hi) rfl
    have d10 := N3.cell0 (i := 10) (v := .slice an nn cn) rfl
    have d11 := N3.cell0 (i := 11) (v := .slice al nl cl) rfl
    have b4 := below_bx2 b3 (.cells #[.func (.func 57) #[.agg #[.slice am nm cm, .int .i64 q, .int .i64 bx, .int .i64 cy, .slice am nm cm, .int .i64 q, .int .i64 bx, .int .i64 cy, .int .i64 lo, .int .i64 hi, .slice an nn cn, .slice al nl cl]] #[], .func (.func 58) #[.agg #[.slice am nm cm, .int .i64 q, .int .i64 bx, .int .i64 cy, .slice am nm cm, .int .i64 q, .int .i64 bx, .int .i64 cy, .int .i64 lo, .int .i64 hi, .slice an nn cn, .slice al nl cl]] #[], .func (.func 59) #[.agg #[.slice am nm cm, .int .i64 q, .int .i64 bx, .int .i64 cy, .slice am nm cm, .int .i64 q, .int .i64 bx, .int .i64 cy, .int .i64 lo, .int .i64 hi, .slice an nn cn, .slice al nl cl]] #[]] 95)
    have P4 := blk_new (w2.alloc (.cells #[.slice am nm cm, .int .i64 q, .int .i64 bx, .int .i64 cy, .slice am nm cm, .int .i64 q, .int .i64 bx, .int .i64 cy, .int .i64 lo, .int .i64 hi, .slice an nn cn, .slice al nl cl] 91)) #[.func (.func 57) #[.agg #[.slice am nm cm, .int .i64 q, .int .i64 bx, .int .i64 cy, .slice am nm cm, .int .i64 q, .int .i64 bx, .int .i64 cy, .int .i64 lo, .int .i64 hi, .slice an nn cn, .slice al nl cl]] #[], .func (.func 58) #[.agg #[.slice am nm cm, .int .i64 q, .int .i64 bx, .int .i64 cy, .slice am nm cm, .int .i64 q, .int .i64 bx, .int .i64 cy, .int .i64 lo, .int .i64 hi, .slice an nn cn, .slice al nl cl]] #[], .func (.func 59) #[.agg #[.slice am nm cm, .int .i64 q, .int .i64 bx, .int .i64 cy, .slice am nm cm, .int .i64 q, .int .i64 bx, .int .i64 cy, .int .i64 lo, .int .i64 hi, .slice an nn cn, .slice al nl cl]] #[]] 95 (b := w2.heap.size + 1) (by simp)
    have P1 := N1.to (below_one (w2.alloc (.cells #[.slice am nm cm, .int .i64 q, .int .i64 bx, .int .i64 cy, .slice am nm cm, .int .i64 q, .int .i64 bx, .int .i64 cy, .int .i64 lo, .int .i64 hi, .slice an nn cn, .slice al nl cl] 91)) (.cells #[.func (.func 57) #[.agg #[.slice am nm cm, .int .i64 q, .int .i64 bx, .int .i64 cy, .slice am nm cm, .int .i64 q, .int .i64 bx, .int .i64 cy, .int .i64 lo, .int .i64 hi, .slice an nn cn, .slice al nl cl]] #[], .func (.func 58) #[.agg #[.slice am nm cm, .int .i64 q, .int .i64 bx, .int .i64 cy, .slice am nm cm, .int .i64 q, .int .i64 bx, .int .i64 cy, .int .i64 lo, .int .i64 hi, .slice an nn cn, .slice al nl cl]] #[], .func (.func 59) #[.agg #[.slice am nm cm, .int .i64 q, .int .i64 bx, .int .i64 cy, .slice am nm cm, .int .i64 q, .int .i64 bx, .int .i64 cy, .int .i64 lo, .int .i64 hi, .slice an nn cn, .slice al nl cl]] #[]] 95))
    have P2 := N2.to (below_one (w2.alloc (.cells #[.slice am nm cm, .int .i64 q, .int .i64 bx, .int .i64 cy, .slice am nm cm, .int .i64 q, .int .i64 bx, .int .i64 cy, .int .i64 lo, .int .i64 hi, .slice an nn cn, .slice al nl cl] 91)) (.cells #[.func (.func 57) #[.agg #[.slice am nm cm, .int .i64 q, .int .i64 bx, .int .i64 cy, .slice am nm cm, .int .i64 q, .int .i64 bx, .int .i64 cy, .int .i64 lo, .int .i64 hi, .slice an nn cn, .slice al nl cl]] #[], .func (.func 58) #[.agg #[.slice am nm cm, .int .i64 q, .int .i64 bx, .int .i64 cy, .slice am nm cm, .int .i64 q, .int .i64 bx, .int .i64 cy, .int .i64 lo, .int .i64 hi, .slice an nn cn, .slice al nl cl]] #[], .func (.func 59) #[.agg #[.slice am nm cm, .int .i64 q, .int .i64 bx, .int .i64 cy, .slice am nm cm, .int .i64 q, .int .i64 bx, .int .i64 cy, .int .i64 lo, .int .i64 hi, .slice an nn cn, .slice al nl cl]] #[]] 95))
    have z2 : w.heap.size + 1 + 1 < w2.heap.size := M2.lt
    go_wp2
    clear d0 d1 d2 d3 d4 d5 d6 d7 d8 d9 d10 d11 N0 N1 N2 N3 M0 M1 M2 b2 b3
    generalize (w2.alloc (.cells #[.slice am nm cm, .int .i64 q, .int .i64 bx, .int .i64 cy, .slice am nm cm, .int .i64 q, .int .i64 bx, .int .i64 cy, .int .i64 lo, .int .i64 hi, .slice an nn cn, .slice al nl cl] 91)).alloc (.cells #[.func (.func 57) #[.agg #[.slice am nm cm, .int .i64 q, .int .i64 bx, .int .i64 cy, .slice am nm cm, .int .i64 q, .int .i64 bx, .int .i64 cy, .int .i64 lo, .int .i64 hi, .slice an nn cn, .slice al nl cl]] #[], .func (.func 58) #[.agg #[.slice am nm cm, .int .i64 q, .int .i64 bx, .int .i64 cy, .slice am nm cm, .int .i64 q, .int .i64 bx, .int .i64 cy, .int .i64 lo, .int .i64 hi, .slice an nn cn, .slice al nl cl]] #[], .func (.func 59) #[.agg #[.slice am nm cm, .int .i64 q, .int .i64 bx, .int .i64 cy, .slice am nm cm, .int .i64 q, .int .i64 bx, .int .i64 cy, .int .i64 lo, .int .i64 hi, .slice an nn cn, .slice al nl cl]] #[]] 95) = U at *
    have zU : w2.heap.size ≤ U.heap.size := by have := P4.lt; omega
    have HP1 := Lib.hid P1
    have HP2 := Lib.hid P2
    have HP4 := Lib.hid P4
    clear P1 P2 P4 hmf
    generalize w2.heap.size = B at *
    have HQ1 := HP1.out
    have HQ2 := HP2.out
    have HQ4 := HP4.out
    go_loopw [25] (fun i wr => ∃ (k : Nat) (I : Int) (ak : Option Addr) (ck : Nat) (len : Nat), k ≤ 3 ∧ I = k ∧ i = .int .i64 I ∧ len = (prM zs q bx cy lo hi ps rs k).length ∧ prT zs q bx cy lo hi ps rs k = true ∧ Below w.heap.size w wr ∧ B ≤ wr.heap.size ∧ Blk wr (w.heap.size + 1) #[.slice ak len ck] 40 ∧ Blk wr (w.heap.size + 1 + 1) #[.slice none 0 0] 40 ∧ Blk wr (B + 1) #[.func (.func 57) #[.agg #[.slice am nm cm, .int .i64 q, .int .i64 bx, .int .i64 cy, .slice am nm cm, .int .i64 q, .int .i64 bx, .int .i64 cy, .int .i64 lo, .int .i64 hi, .slice an nn cn, .slice al nl cl]] #[], .func (.func 58) #[.agg #[.slice am nm cm, .int .i64 q, .int .i64 bx, .int .i64 cy, .slice am nm cm, .int .i64 q, .int .i64 bx, .int .i64 cy, .int .i64 lo, .int .i64 hi, .slice an nn cn, .slice al nl cl]] #[], .func (.func 59) #[.agg #[.slice am nm cm, .int .i64 q, .int .i64 bx, .int .i64 cy, .slice am nm cm, .int .i64 q, .int .i64 bx, .int .i64 cy, .int .i64 lo, .int .i64 hi, .slice an nn cn, .slice al nl cl]] #[]] 95 ∧ HsAt wr ak (prM zs q bx cy lo hi ps rs k) ∧ (ak = none → len = 0 ∧ ck = 0) ∧ (0 < k → wr.ownsRow B 104 3 (.slice ak len ck) len (flat (prM zs q bx cy lo hi ps rs k)))) (fun i _ => 3 - (intOf i).toNat)
    case atStart => exact ⟨0, 0, a, ca, rs.length, by omega, rfl, rfl, rfl, rfl, b4, zU, HQ1, HQ2, HQ4, HG.out.below b4, HZ.out, fun h => absurd h (by omega)⟩
    case round =>
      obtain ⟨k, I, ak, ck, len, hk, hI, rfl, hlen, hT, hbw, hzB, h1, h2, h4, hat, hnil, hown⟩ := hrel
      by_cases h3 : k = 3
      · subst h3
        obtain rfl : I = 3 := by omega
        have HO := Lib.hid (hown (by omega))
        have HN := Lib.hid (pr_end hr hT)
        have e1 := h1.cell0 (i := 0) (v := .slice ak len ck) rfl
        have e2 := h2.cell0 (i := 0) (v := .slice none 0 0) rfl
        have f2 := h2.free 0
        have HB := Lib.hid hbw
        have HL := Lib.hid hlen
        clear hk hI hlen hT hbw h1 h2 h4 hat hnil hown hr
        go_wp2_with fail
        have HE := HL.out
        subst HE
        exact bodyPost_ret (v := .tuple #[.agg #[.slice ak _ ck], .bool true]) (by simp [results, Tryz.results18, go_sem, e2]) rfl (AnsR.yes HN.out.1.symm HN.out.2 (own_base (own_far (p := ⟨w.heap.size + 1 + 1, 0, none⟩) HO.out (by simp only; omega) _) (by omega)) (HB.out.setCell (p := ⟨w.heap.size + 1 + 1, 0, none⟩) (Nat.le_add_right _ 2) _))
      · have e1 := h1.cell0 (i := 0) (v := .slice ak len ck) rfl
        have HT := Lib.hid hT
        have HB := Lib.hid hbw
        have HH1 := Lib.hid h1
        have HH2 := Lib.hid h2
        have HH4 := Lib.hid h4
        have HAT := Lib.hid hat
        have HNI := Lib.hid hnil
        have HLN := Lib.hid hlen
        clear hT hbw h1 h2 h4 hat hnil hown
        obtain h | h | h : k = 0 ∨ k = 1 ∨ k = 2 := by omega
        · subst h
          obtain rfl : I = 0 := by omega
          obtain rfl : len = (rs).length := HLN.out
          have e4 := HH4.out.cell0 (i := 0) (v := .func (.func 57) #[.agg #[.slice am nm cm, .int .i64 q, .int .i64 bx, .int .i64 cy, .slice am nm cm, .int .i64 q, .int .i64 bx, .int .i64 cy, .int .i64 lo, .int .i64 hi, .slice an nn cn, .slice al nl cl]] #[]) rfl
          clear hk h3 hlen hI
          go_wp2_with fail
          refine (H0.out wr _ _ HB.out HNI.out HAT.out).mono ?_
          rintro e w4 ⟨ag, cg, rfl, ho, bl4⟩
          have bY := below_bx2 bl4 (.cells #[.slice ag (eroL rs ps).length cg] 40)
          have HO := Lib.hid (own_below ho (below_one w4 (.cells #[.slice ag (eroL rs ps).length cg] 40)))
          have N1 := blk_new w4 #[.slice ag (eroL rs ps).length cg] 40 rfl
          have Q1 := HH1.out.to bY
          have Q2 := HH2.out.to bY
          have Q4 := Lib.hid (HH4.out.to bY)
          have b5 := below_to HB.out bY
          have z5 : B ≤ (w4.alloc (.cells #[.slice ag (eroL rs ps).length cg] 40)).heap.size := Nat.le_trans hzB bY.size
          have lw := HH1.out.lt
          clear ho bl4 e1 e4 HH1 HH2 HH4 HAT HNI HB
          cases hB : eroB rs ps with
          | false =>
            have HN := Lib.hid (pr_f0 (zs := zs) (q := q) (qs := qs) (rs := rs) hr HT.out hB)
            have q2 := Q2.cell0 (i := 0) (v := .slice none 0 0) rfl
            have f2 := Q2.free 0
            clear hB hr HO Q1 Q4 N1 HT
            go_wp2_with fail
            exact bodyPost_ret (v := .tuple #[.agg #[.slice none 0 0], .bool false]) (by simp [results, Tryz.results18, go_sem, q2]) rfl (AnsR.no HN.out.1 HN.out.2 (b5.setCell (p := ⟨w.heap.size + 1 + 1, 0, none⟩) (Nat.le_add_right _ 2) _))
          | true =>
            have HT2 := Lib.hid (pr_t0 (zs := zs) (q := q) (bx := bx) (cy := cy) (lo := lo) (hi := hi) HT.out hB)
            have n0 := N1.cell0 (i := 0) rfl
            have q1 := Q1.cell0 (i := 0) rfl
            have f1 := Q1.free 0
            have HX1 := Lib.hid (heap_set1 (.slice ag (eroL rs ps).length cg) Q1)
            have HX2 := Lib.hid (blk_far Q2 (p := ⟨w.heap.size + 1, 0, none⟩) (.slice ag (eroL rs ps).length cg) (by simp))
            have HX4 := Lib.hid (blk_far Q4.out (p := ⟨w.heap.size + 1, 0, none⟩) (.slice ag (eroL rs ps).length cg) (by simp only; omega))
            have HO2 := Lib.hid (own_far (p := ⟨w.heap.size + 1, 0, none⟩) (own_base HO.out hzB) (by simp only; omega) (.slice ag (eroL rs ps).length cg))
            have HB5 := Lib.hid (b5.setCell (p := ⟨w.heap.size + 1, 0, none⟩) (Nat.le_add_right _ _) (.slice ag (eroL rs ps).length cg))
            clear hB HO Q2 Q4 HT
            go_wp2
            go_roundw
            case rel => exact ⟨1, 1, ag, cg, (eroL rs ps).length, by omega, rfl, by go_num, rfl, HT2.out, HB5.out, by simpa using z5, HX1.out, HX2.out, HX4.out, own_hs HO2.out, own_nil HO2.out, fun _ => HO2.out⟩
            case measure => simp [intOf]
        · subst h
          obtain rfl : I = 1 := by omega
          obtain rfl : len = (eroL rs ps).length := HLN.out
          have e4 := HH4.out.cell0 (i := 1) (v := .func (.func 58) #[.agg #[.slice am nm cm, .int .i64 q, .int .i64 bx, .int .i64 cy, .slice am nm cm, .int .i64 q, .int .i64 bx, .int .i64 cy, .int .i64 lo, .int .i64 hi, .slice an nn cn, .slice al nl cl]] #[]) rfl
          clear hk h3 hlen hI
          go_wp2_with fail
          refine (H1.out wr _ _ HB.out HNI.out HAT.out).mono ?_
          rintro e w4 ⟨ag, cg, rfl, ho, bl4⟩
          have bY := below_bx2 bl4 (.cells #[.slice ag (gwL (eroL rs ps) bx cy lo hi).length cg] 40)
          have HO := Lib.hid (own_below ho (below_one w4 (.cells #[.slice ag (gwL (eroL rs ps) bx cy lo hi).length cg] 40)))
          have N1 := blk_new w4 #[.slice ag (gwL (eroL rs ps) bx cy lo hi).length cg] 40 rfl
          have Q1 := HH1.out.to bY
          have Q2 := HH2.out.to bY
          have Q4 := Lib.hid (HH4.out.to bY)
          have b5 := below_to HB.out bY
          have z5 : B ≤ (w4.alloc (.cells #[.slice ag (gwL (eroL rs ps) bx cy lo hi).length cg] 40)).heap.size := Nat.le_trans hzB bY.size
          have lw := HH1.out.lt
          clear ho bl4 e1 e4 HH1 HH2 HH4 HAT HNI HB
          cases hB : gwB (eroL rs ps) bx cy lo hi with
          | false =>
            have HN := Lib.hid (pr_f1 (zs := zs) (q := q) (qs := qs) (rs := rs) hr HT.out hB)
            have q2 := Q2.cell0 (i := 0) (v := .slice none 0 0) rfl
            have f2 := Q2.free 0
            clear hB hr HO Q1 Q4 N1 HT
            go_wp2_with fail
            exact bodyPost_ret (v := .tuple #[.agg #[.slice none 0 0], .bool false]) (by simp [results, Tryz.results18, go_sem, q2]) rfl (AnsR.no HN.out.1 HN.out.2 (b5.setCell (p := ⟨w.heap.size + 1 + 1, 0, none⟩) (Nat.le_add_right _ 2) _))
          | true =>
            have HT2 := Lib.hid (pr_t1 (zs := zs) (q := q) (bx := bx) (cy := cy) (lo := lo) (hi := hi) HT.out hB)
            have n0 := N1.cell0 (i := 0) rfl
            have q1 := Q1.cell0 (i := 0) rfl
            have f1 := Q1.free 0
            have HX1 := Lib.hid (heap_set1 (.slice ag (gwL (eroL rs ps) bx cy lo hi).length cg) Q1)
            have HX2 := Lib.hid (blk_far Q2 (p := ⟨w.heap.size + 1, 0, none⟩) (.slice ag (gwL (eroL rs ps) bx cy lo hi).length cg) (by simp))
            have HX4 := Lib.hid (blk_far Q4.out (p := ⟨w.heap.size + 1, 0, none⟩) (.slice ag (gwL (eroL rs ps) bx cy lo hi).length cg) (by simp only; omega))
            have HO2 := Lib.hid (own_far (p := ⟨w.heap.size + 1, 0, none⟩) (own_base HO.out hzB) (by simp only; omega) (.slice ag (gwL (eroL rs ps) bx cy lo hi).length cg))
            have HB5 := Lib.hid (b5.setCell (p := ⟨w.heap.size + 1, 0, none⟩) (Nat.le_add_right _ _) (.slice ag (gwL (eroL rs ps) bx cy lo hi).length cg))
            clear hB HO Q2 Q4 HT
            go_wp2
            go_roundw
            case rel => exact ⟨2, 2, ag, cg, (gwL (eroL rs ps) bx cy lo hi).length, by omega, rfl, by go_num, rfl, HT2.out, HB5.out, by simpa using z5, HX1.out, HX2.out, HX4.out, own_hs HO2.out, own_nil HO2.out, fun _ => HO2.out⟩
            case measure => simp [intOf]
        · subst h
          obtain rfl : I = 2 := by omega
          obtain rfl : len = (prG bx cy lo hi ps rs).length := HLN.out
          have e4 := HH4.out.cell0 (i := 2) (v := .func (.func 59) #[.agg #[.slice am nm cm, .int .i64 q, .int .i64 bx, .int .i64 cy, .slice am nm cm, .int .i64 q, .int .i64 bx, .int .i64 cy, .int .i64 lo, .int .i64 hi, .slice an nn cn, .slice al nl cl]] #[]) rfl
          clear hk h3 hlen hI
          go_wp2_with fail
          refine (H2.out wr _ _ HB.out HNI.out HAT.out).mono ?_
          rintro e w4 ⟨ag, cg, rfl, ho, bl4⟩
          have bY := below_bx2 bl4 (.cells #[.slice ag (pbkL (prG bx cy lo hi ps rs) zs q).length cg] 40)
          have HO := Lib.hid (own_below ho (below_one w4 (.cells #[.slice ag (pbkL (prG bx cy lo hi ps rs) zs q).length cg] 40)))
          have N1 := blk_new w4 #[.slice ag (pbkL (prG bx cy lo hi ps rs) zs q).length cg] 40 rfl
          have Q1 := HH1.out.to bY
          have Q2 := HH2.out.to bY
          have Q4 := Lib.hid (HH4.out.to bY)
          have b5 := below_to HB.out bY
          have z5 : B ≤ (w4.alloc (.cells #[.slice ag (pbkL (prG bx cy lo hi ps rs) zs q).length cg] 40)).heap.size := Nat.le_trans hzB bY.size
          have lw := HH1.out.lt
          clear ho bl4 e1 e4 HH1 HH2 HH4 HAT HNI HB
          cases hB : pbkB (prG bx cy lo hi ps rs) zs q with
          | false =>
            have HN := Lib.hid (pr_f2 (zs := zs) (q := q) (qs := qs) (rs := rs) hr HT.out hB)
            have q2 := Q2.cell0 (i := 0) (v := .slice none 0 0) rfl
            have f2 := Q2.free 0
            clear hB hr HO Q1 Q4 N1 HT
            go_wp2_with fail
            exact bodyPost_ret (v := .tuple #[.agg #[.slice none 0 0], .bool false]) (by simp [results, Tryz.results18, go_sem, q2]) rfl (AnsR.no HN.out.1 HN.out.2 (b5.setCell (p := ⟨w.heap.size + 1 + 1, 0, none⟩) (Nat.le_add_right _ 2) _))
          | true =>
            have HT2 := Lib.hid (pr_t2 (zs := zs) (q := q) (bx := bx) (cy := cy) (lo := lo) (hi := hi) HT.out hB)
            have n0 := N1.cell0 (i := 0) rfl
            have q1 := Q1.cell0 (i := 0) rfl
            have f1 := Q1.free 0
            have HX1 := Lib.hid (heap_set1 (.slice ag (pbkL (prG bx cy lo hi ps rs) zs q).length cg) Q1)
            have HX2 := Lib.hid (blk_far Q2 (p := ⟨w.heap.size + 1, 0, none⟩) (.slice ag (pbkL (prG bx cy lo hi ps rs) zs q).length cg) (by simp))
            have HX4 := Lib.hid (blk_far Q4.out (p := ⟨w.heap.size + 1, 0, none⟩) (.slice ag (pbkL (prG bx cy lo hi ps rs) zs q).length cg) (by simp only; omega))
            have HO2 := Lib.hid (own_far (p := ⟨w.heap.size + 1, 0, none⟩) (own_base HO.out hzB) (by simp only; omega) (.slice ag (pbkL (prG bx cy lo hi ps rs) zs q).length cg))
            have HB5 := Lib.hid (b5.setCell (p := ⟨w.heap.size + 1, 0, none⟩) (Nat.le_add_right _ _) (.slice ag (pbkL (prG bx cy lo hi ps rs) zs q).length cg))
            clear hB HO Q2 Q4 HT
            go_wp2
            go_roundw
            case rel => exact ⟨3, 3, ag, cg, (pbkL (prG bx cy lo hi ps rs) zs q).length, by omega, rfl, by go_num, rfl, HT2.out, HB5.out, by simpa using z5, HX1.out, HX2.out, HX4.out, own_hs HO2.out, own_nil HO2.out, fun _ => HO2.out⟩
            case measure => simp [intOf]
open Go.RowKit
open Geo (H3)
set_option maxRecDepth 100000 in
set_option maxHeartbeats 1600000 in
theorem impl_kp (am : Option Addr) (nm cm : Nat) (zs : List Int) (q bx cy lo hi : Int) (an : Option Addr) (nn cn : Nat) (ps : List H3) (al : Option Addr) (nl cl : Nat) (qs : List H3) (a : Option Addr) (n ca : Nat) (rs : List H3) (w : World) (hA : RAt w am nm zs an nn ps al nl qs) (h64 : R64 q bx cy lo hi ps qs) (hle : nm + nn + nl ≤ 1048576) (hl : rs.length = n) (hn : n ≤ 1048576) (hr64 : ∀ h ∈ rs, In64 h) (hz : a = none → n = 0 ∧ ca = 0) (hG : HsAt w a rs) :
    Calls Tryz.prog 23 #[.agg #[.slice am nm cm, .int .i64 q, .int .i64 bx, .int .i64 cy, .int .i64 lo, .int .i64 hi, .slice an nn cn, .slice al nl cl], .agg #[.slice a n ca]] w (AnsR w (kpL zs q bx cy lo hi ps qs rs) (kpB zs q bx cy lo hi ps qs rs)) := by
  have bV := below_bx2 (below_bx2 (below_one w (.cells #[.slice am nm cm, .int .i64 q, .int .i64 bx, .int .i64 cy, .int .i64 lo, .int .i64 hi, .slice an nn cn, .slice al nl cl] 42)) (.cells #[.slice a n ca] 40)) (.cells #[.slice none 0 0] 40)
  have K0 := ((blk_new w #[.slice am nm cm, .int .i64 q, .int .i64 bx, .int .i64 cy, .int .i64 lo, .int .i64 hi, .slice an nn cn, .slice al nl cl] 42 (b := w.heap.size) (by simp)).to (below_one _ (.cells #[.slice a n ca] 40))).to (below_one _ (.cells #[.slice none 0 0] 40))
  have K1 := (blk_new (w.alloc (.cells #[.slice am nm cm, .int .i64 q, .int .i64 bx, .int .i64 cy, .int .i64 lo, .int .i64 hi, .slice an nn cn, .slice al nl cl] 42)) #[.slice a n ca] 40 (b := w.heap.size + 1) (by simp)).to (below_one _ (.cells #[.slice none 0 0] 40))
  have K2 := blk_new ((w.alloc (.cells #[.slice am nm cm, .int .i64 q, .int .i64 bx, .int .i64 cy, .int .i64 lo, .int .i64 hi, .slice an nn cn, .slice al nl cl] 42)).alloc (.cells #[.slice a n ca] 40)) #[.slice none 0 0] 40 (b := w.heap.size + 1 + 1) (by simp)
  have HE := Lib.hid (fun V (h : Below w.heap.size w V) => impl_pr am nm cm zs q bx cy lo hi an nn cn ps al nl cl qs a n ca rs V (hA.below h) h64 hle hl hn hr64 hz (hG.below h))
  have H1 := Lib.hid (fun V a1 c1 (h : Below w.heap.size w V) (_k0 : a1 = none → (prL zs q bx cy lo hi ps qs rs).length = 0 ∧ c1 = 0) (k : HsAt V a1 (prL zs q bx cy lo hi ps qs rs)) => impl_met a a1 n (prL zs q bx cy lo hi ps qs rs).length ca c1 rs (prL zs q bx cy lo hi ps qs rs) V hl rfl hn (Nat.le_trans (prL_len _ _ _ _ _ _ _ _ _) (by omega)) hr64 (prL_64 _ _ _ _ _ _ _ _ _) (hG.below h) k)
  clear hA h64 hl hn hr64 hz hG
  have c0_0 := K0.c8_0
  have c0_1 := K0.c8_1
  have c0_2 := K0.c8_2
  have c0_3 := K0.c8_3
  have c0_4 := K0.c8_4
  have c0_5 := K0.c8_5
  have c0_6 := K0.c8_6
  have c0_7 := K0.c8_7
  have c1_0 := K1.cell0 (i := 0) (v := .slice a n ca) rfl
  go_enter Tryz.func23, Tryz.ntmps23
  go_wp2_with fail
  clear c0_0 c0_1 c0_2 c0_3 c0_4 c0_5 c0_6 c0_7 c1_0
  generalize (((w.alloc (.cells #[.slice am nm cm, .int .i64 q, .int .i64 bx, .int .i64 cy, .int .i64 lo, .int .i64 hi, .slice an nn cn, .slice al nl cl] 42)).alloc (.cells #[.slice a n ca] 40)).alloc (.cells #[.slice none 0 0] 40)) = V at *
  refine (HE.out _ bV).mono ?_
  rintro e w1 ⟨ag, cg, rfl, ho, bl1⟩
  have b1 := below_to bV bl1
  have L1 := K1.to bl1
  have L2 := K2.to bl1
  clear bV K0 K1 K2 HE
  have bY := below_one w1 (.cells #[.slice ag (prL zs q bx cy lo hi ps qs rs).length cg] 40)
  have b2 := below_to b1 bY
  have N3 := blk_new w1 #[.slice ag (prL zs q bx cy lo hi ps qs rs).length cg] 40 rfl
  have M1 := L1.to bY
  have M2 := L2.to bY
  have HO := Lib.hid (own_below ho bY)
  clear ho bl1 b1 L1 L2 bY
  cases hb : prB zs q bx cy lo hi ps qs rs with
  | false =>
    have HN := Lib.hid (kp_no hb)
    have q2 := M2.cell0 (i := 0) (v := .slice none 0 0) rfl
    have f2 := M2.free 0
    clear hb H1 HO M1 N3
    go_wp2_with fail
    exact bodyPost_ret (v := .tuple #[.agg #[.slice none 0 0], .bool false]) (by simp [results, Tryz.results23, go_sem, q2]) rfl (AnsR.no HN.out.1 HN.out.2 (b2.setCell (p := ⟨w.heap.size + 1 + 1, 0, none⟩) (Nat.le_add_right _ 2) _))
  | true =>
    have HN := Lib.hid (kp_yes hb)
    have m1 := M1.cell0 (i := 0) (v := .slice a n ca) rfl
    have n3 := N3.cell0 (i := 0) rfl
    clear hb
    go_wp2_with fail
    clear m1 n3
    generalize w1.alloc (.cells #[.slice ag (prL zs q bx cy lo hi ps qs rs).length cg] 40) = U at *
    refine (H1.out U _ _ b2 (own_nil HO.out) (own_hs HO.out)).mono ?_
    rintro e w3 ⟨ah, ch, rfl, ho, bl3⟩
    have Q2 := M2.to bl3
    have q2 := Q2.cell0 (i := 0) (v := .slice none 0 0) rfl
    have f2 := Q2.free 0
    have HF := Lib.hid (AnsR.put (p := ⟨w.heap.size + 1 + 1, 0, none⟩) (w := w) (L := kpL zs q bx cy lo hi ps qs rs) (b := kpB zs q bx cy lo hi ps qs rs) ho HN.out.1 HN.out.2 b2 bl3 M2.lt (Nat.le_add_right _ 2))
    clear ho bl3 b2 M1 M2 N3 Q2 HN HO H1
    generalize (metL rs (prL zs q bx cy lo hi ps qs rs)).length = len at *
    generalize metB rs (prL zs q bx cy lo hi ps qs rs) = R at *
    go_wp2_with fail
    exact bodyPost_ret (v := .tuple #[.agg #[.slice ah len ch], .bool R]) (by simp [results, Tryz.results23, go_sem, q2]) rfl HF.out
end Go.Proofs.YtibkmhmeoelpdaaGreat
