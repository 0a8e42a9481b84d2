/- RobustPart of the program and of the model, over the translation. -/
import Derived.Test.YtibkmhmeoelpdaaGreatVc
import Derived.Test.YtibkmhmeoelpdaaGreatKd
import Derived.Test.YtibkmhmeoelpdaaGreatEz
namespace Go.Proofs.YtibkmhmeoelpdaaGreat
open Go.RowKit
open Geo (H3)

theorem room9 {V X : World} {B C : Nat} {a0 a1 a2 a3 a4 a5 a6 a7 b0 : Value} {T U : TypeId} (h : Blk V B #[a0, a1, a2, a3, a4, a5, a6, a7] T) (k : Blk V C #[b0] U) (hb : Below V.heap.size V X) : X.cell? ⟨B, 0, none⟩ = some a0 ∧ X.cell? ⟨B, 1, none⟩ = some a1 ∧ X.cell? ⟨B, 2, none⟩ = some a2 ∧ X.cell? ⟨B, 3, none⟩ = some a3 ∧ X.cell? ⟨B, 4, none⟩ = some a4 ∧ X.cell? ⟨B, 5, none⟩ = some a5 ∧ X.cell? ⟨B, 6, none⟩ = some a6 ∧ X.cell? ⟨B, 7, none⟩ = some a7 ∧ X.cell? ⟨C, 0, none⟩ = some b0 :=
  ⟨(h.to hb).c8_0, (h.to hb).c8_1, (h.to hb).c8_2, (h.to hb).c8_3, (h.to hb).c8_4, (h.to hb).c8_5, (h.to hb).c8_6, (h.to hb).c8_7, (k.to hb).cell0 rfl⟩
theorem room9s {V X : World} {B C : Nat} {p : Addr} {u : Value} {a0 a1 a2 a3 a4 a5 a6 a7 b0 : Value} {T U : TypeId} (h : Blk V B #[a0, a1, a2, a3, a4, a5, a6, a7] T) (k : Blk V C #[b0] U) (n1 : p.block ≠ B) (n2 : p.block ≠ C) (hb : Below V.heap.size V X) : (X.setCell p u).cell? ⟨B, 0, none⟩ = some a0 ∧ (X.setCell p u).cell? ⟨B, 1, none⟩ = some a1 ∧ (X.setCell p u).cell? ⟨B, 2, none⟩ = some a2 ∧ (X.setCell p u).cell? ⟨B, 3, none⟩ = some a3 ∧ (X.setCell p u).cell? ⟨B, 4, none⟩ = some a4 ∧ (X.setCell p u).cell? ⟨B, 5, none⟩ = some a5 ∧ (X.setCell p u).cell? ⟨B, 6, none⟩ = some a6 ∧ (X.setCell p u).cell? ⟨B, 7, none⟩ = some a7 ∧ (X.setCell p u).cell? ⟨C, 0, none⟩ = some b0 :=
  ⟨(blk_far (h.to hb) u n1).c8_0, (blk_far (h.to hb) u n1).c8_1, (blk_far (h.to hb) u n1).c8_2, (blk_far (h.to hb) u n1).c8_3, (blk_far (h.to hb) u n1).c8_4, (blk_far (h.to hb) u n1).c8_5, (blk_far (h.to hb) u n1).c8_6, (blk_far (h.to hb) u n1).c8_7, (blk_far (k.to hb) u n2).cell0 rfl⟩
set_option maxRecDepth 100000 in
set_option maxHeartbeats 1600000 in
theorem impl_rp (am : Option Addr) (nm cm : Nat) (zs : List Int) (q bx cy lo hi : Int) (an : Option Addr) (nn cn : Nat) (ps : List H3) (al : Option Addr) (nl cl : Nat) (qs : List H3) (a : Option Addr) (n ca : Nat) (rs : List H3) (w : World) (hA : RAt w am nm zs an nn ps al nl qs) (h64 : R64 q bx cy lo hi ps qs) (hle : nm + nn + nl ≤ 1048576) (hl : rs.length = n) (hn : n ≤ 1048576) (hr64 : ∀ h ∈ rs, In64 h) (hz : a = none → n = 0 ∧ ca = 0) (hG : HsAt w a rs) :
    Calls Tryz.prog 19 #[.agg #[.slice am nm cm, .int .i64 q, .int .i64 bx, .int .i64 cy, .int .i64 lo, .int .i64 hi, .slice an nn cn, .slice al nl cl], .agg #[.slice a n ca]] w (AnsR w (rpL zs q bx cy lo hi ps qs rs) (rpB zs q bx cy lo hi ps qs rs)) := by
  have bV := below_bx2 (below_bx2 (below_one w (.cells #[.slice am nm cm, .int .i64 q, .int .i64 bx, .int .i64 cy, .int .i64 lo, .int .i64 hi, .slice an nn cn, .slice al nl cl] 42)) (.cells #[.slice a n ca] 40)) (.cells #[.slice none 0 0] 40)
  have K0 := ((blk_new w #[.slice am nm cm, .int .i64 q, .int .i64 bx, .int .i64 cy, .int .i64 lo, .int .i64 hi, .slice an nn cn, .slice al nl cl] 42 (b := w.heap.size) (by simp)).to (below_one _ (.cells #[.slice a n ca] 40))).to (below_one _ (.cells #[.slice none 0 0] 40))
  have K1 := (blk_new (w.alloc (.cells #[.slice am nm cm, .int .i64 q, .int .i64 bx, .int .i64 cy, .int .i64 lo, .int .i64 hi, .slice an nn cn, .slice al nl cl] 42)) #[.slice a n ca] 40 (b := w.heap.size + 1) (by simp)).to (below_one _ (.cells #[.slice none 0 0] 40))
  have K2 := blk_new ((w.alloc (.cells #[.slice am nm cm, .int .i64 q, .int .i64 bx, .int .i64 cy, .int .i64 lo, .int .i64 hi, .slice an nn cn, .slice al nl cl] 42)).alloc (.cells #[.slice a n ca] 40)) #[.slice none 0 0] 40 (b := w.heap.size + 1 + 1) (by simp)
  have HR := Lib.hid (fun V (h : Below w.heap.size w V) => impl_room am nm cm zs q bx cy lo hi an nn cn ps al nl cl qs V _ rfl (hA.below h) h64 hle)
  have HW := Lib.hid (fun V => impl_wm am nm cm q bx cy lo hi an nn cn al nl cl V)
  have HE := Lib.hid (fun V (h : Below w.heap.size w V) => impl_bno am nm cm zs q bx cy lo hi an nn cn ps al nl cl qs a n ca rs V (hA.below h) h64 hle hl hn hr64 hz (hG.below h))
  clear hA h64 hl hn hr64 hz hG
  have c0_0 := K0.c8_0
  have c0_1 := K0.c8_1
  have c0_2 := K0.c8_2
  have c0_3 := K0.c8_3
  have c0_4 := K0.c8_4
  have c0_5 := K0.c8_5
  have c0_6 := K0.c8_6
  have c0_7 := K0.c8_7
  go_enter Tryz.func19, Tryz.ntmps19
  go_wp2_with fail
  clear c0_0 c0_1 c0_2 c0_3 c0_4 c0_5 c0_6 c0_7
  generalize (((w.alloc (.cells #[.slice am nm cm, .int .i64 q, .int .i64 bx, .int .i64 cy, .int .i64 lo, .int .i64 hi, .slice an nn cn, .slice al nl cl] 42)).alloc (.cells #[.slice a n ca] 40)).alloc (.cells #[.slice none 0 0] 40)) = V at *
  refine (HR.out _ bV).mono ?_
  rintro e w1 ⟨rfl, bl1⟩
  have b1 := below_to bV bl1
  have L0 := K0.to bl1
  have L1 := K1.to bl1
  have L2 := K2.to bl1
  clear bV bl1 K0 K1 K2 HR
  cases hr : rmB zs q bx cy lo hi ps qs with
  | false =>
    have HN := Lib.hid (rp_no (rs := rs) hr)
    clear hr
    have q2 := L2.cell0 (i := 0) (v := .slice none 0 0) rfl
    have f2 := L2.free 0
    go_wp2_with fail
    exact bodyPost_ret (v := .tuple #[.agg #[.slice none 0 0], .bool false]) (by simp [results, Tryz.results19, go_sem, q2]) rfl (AnsR.no HN.out.1 HN.out.2 (b1.setCell (p := ⟨w.heap.size + 1 + 1, 0, none⟩) (Nat.le_add_right _ 2) _))
  | true =>
    have HN := Lib.hid (rp_yes (rs := rs) hr)
    clear hr
    go_wp2
    go_region_held3 (fun w' => w'.cell? ⟨w.heap.size, 0, none⟩ = some (.slice am nm cm) ∧ w'.cell? ⟨w.heap.size, 1, none⟩ = some (.int .i64 q) ∧ w'.cell? ⟨w.heap.size, 2, none⟩ = some (.int .i64 bx) ∧ w'.cell? ⟨w.heap.size, 3, none⟩ = some (.int .i64 cy) ∧ w'.cell? ⟨w.heap.size, 4, none⟩ = some (.int .i64 lo) ∧ w'.cell? ⟨w.heap.size, 5, none⟩ = some (.int .i64 hi) ∧ w'.cell? ⟨w.heap.size, 6, none⟩ = some (.slice an nn cn) ∧ w'.cell? ⟨w.heap.size, 7, none⟩ = some (.slice al nl cl) ∧ w'.cell? ⟨w.heap.size + 1, 0, none⟩ = some (.slice a n ca))
      (first | (refine room9s L0 L1 ?_ ?_ ?_; (focus (simp only; omega)); (focus (simp only; omega)); repeat (first | exact Below.refl _ _ | refine below_drw ?_ | refine below_bx2 ?_ _ | refine below_to ?_ (by assumption))) | (refine room9 L0 L1 ?_; repeat (first | exact Below.refl _ _ | refine below_drw ?_ | refine below_bx2 ?_ _ | refine below_to ?_ (by assumption))))
      (first | (go_at_call 56; (with_reducible refine (HW.out _).mono ?_); rintro e w2 ⟨rfl, bl2⟩) | (go_at_call 57; (with_reducible refine (HE.out _ ?_).mono ?_); (focus (repeat (first | exact b1 | refine below_drw ?_ | refine below_bx2 ?_ _ | refine below_to ?_ (by assumption)))); rintro e w3 ⟨ag, cg, rfl, ho, bl3⟩; have hX : Below w1.heap.size w1 w3 := (by refine below_to ?_ bl3; repeat (first | exact Below.refl _ _ | refine below_drw ?_ | refine below_bx2 ?_ _ | refine below_to ?_ (by assumption))); have q2 := (L2.to hX).cell0 (i := 0) (v := .slice none 0 0) rfl; have f2 := (L2.to hX).free 0; have HO := Lib.hid ho; have HB3 := Lib.hid bl3; clear ho))
    all_goals
      have hs2 := bl2.size
      (try simp at hs2)
      have lt2 := L2.lt
      have HF := Lib.hid (AnsR.yes (w := w) (L := rpL zs q bx cy lo hi ps qs rs) (b := rpB zs q bx cy lo hi ps qs rs) HN.out.1.symm HN.out.2 (own_base (own_far (p := ⟨w.heap.size + 1 + 1, 0, none⟩) HO.out (by first | (simp only; omega) | (simp; omega)) (.slice ag (eroL rs ps).length cg)) (by first | omega | (simp; omega))) ((below_to b1 hX).setCell (p := ⟨w.heap.size + 1 + 1, 0, none⟩) (Nat.le_add_right _ 2) _))
      clear f2 HO HB3 hX bl2 bl3 hs2 lt2 HN HE HW L0 L1 L2 b1
      generalize (eroL rs ps).length = len at *
      generalize eroB rs ps = R at *
      go_wp2_with fail
      exact bodyPost_ret (v := .tuple #[.agg #[.slice ag len cg], .bool R]) (by simp [results, Tryz.results19, go_sem, q2]) rfl HF.out
set_option maxRecDepth 100000 in
set_option maxHeartbeats 1600000 in
theorem spec_rp (am : Option Addr) (nm cm : Nat) (zs : List Int) (q bx cy lo hi : Int) (an : Option Addr) (nn cn : Nat) (ps : List H3) (al : Option Addr) (nl cl : Nat) (qs : List H3) (a : Option Addr) (n ca : Nat) (rs : List H3) (w : World) (hA : RAt w am nm zs an nn ps al nl qs) (h64 : R64 q bx cy lo hi ps qs) (hle : nm + nn + nl ≤ 1048576) (hl : rs.length = n) (hn : n ≤ 1048576) (hr64 : ∀ h ∈ rs, In64 h) (hz : a = none → n = 0 ∧ ca = 0) (hG : HsAt w a rs) (hnl : RNil am nm cm an nn cn al nl cl) :
    Calls Tryz.prog 44 #[.agg #[.slice am nm cm, .int .i64 q, .int .i64 bx, .int .i64 cy, .int .i64 lo, .int .i64 hi, .slice an nn cn, .slice al nl cl], .agg #[.slice a n ca]] w (AnsR w (rpL zs q bx cy lo hi ps qs rs) (rpB zs q bx cy lo hi ps qs rs)) := by
  have bV := below_bx2 (below_bx2 (below_one w (.cells #[.slice am nm cm, .int .i64 q, .int .i64 bx, .int .i64 cy, .int .i64 lo, .int .i64 hi, .slice an nn cn, .slice al nl cl] 42)) (.cells #[.slice a n ca] 40)) (.cells #[.slice none 0 0] 40)
  have K0 := ((blk_new w #[.slice am nm cm, .int .i64 q, .int .i64 bx, .int .i64 cy, .int .i64 lo, .int .i64 hi, .slice an nn cn, .slice al nl cl] 42 (b := w.heap.size) (by simp)).to (below_one _ (.cells #[.slice a n ca] 40))).to (below_one _ (.cells #[.slice none 0 0] 40))
  have K1 := (blk_new (w.alloc (.cells #[.slice am nm cm, .int .i64 q, .int .i64 bx, .int .i64 cy, .int .i64 lo, .int .i64 hi, .slice an nn cn, .slice al nl cl] 42)) #[.slice a n ca] 40 (b := w.heap.size + 1) (by simp)).to (below_one _ (.cells #[.slice none 0 0] 40))
  have K2 := blk_new ((w.alloc (.cells #[.slice am nm cm, .int .i64 q, .int .i64 bx, .int .i64 cy, .int .i64 lo, .int .i64 hi, .slice an nn cn, .slice al nl cl] 42)).alloc (.cells #[.slice a n ca] 40)) #[.slice none 0 0] 40 (b := w.heap.size + 1 + 1) (by simp)
  have HR := Lib.hid (fun V (h : Below w.heap.size w V) => spec_room am nm cm zs q bx cy lo hi an nn cn ps al nl cl qs V _ rfl (hA.below h) h64 hnl hle)
  have HE := Lib.hid (fun V (h : Below w.heap.size w V) => spec_ero a an n nn ca cn rs ps V hl hA.ln hn (by omega) hr64 h64.ps hz hnl.n (hG.below h) (hA.hn.below h))
  clear hA h64 hl hn hr64 hz hG
  have c0_0 := K0.c8_0
  have c0_1 := K0.c8_1
  have c0_2 := K0.c8_2
  have c0_3 := K0.c8_3
  have c0_4 := K0.c8_4
  have c0_5 := K0.c8_5
  have c0_6 := K0.c8_6
  have c0_7 := K0.c8_7
  go_enter Tryz.func44, Tryz.ntmps44
  go_wp2_with fail
  clear c0_0 c0_1 c0_2 c0_3 c0_4 c0_5 c0_6 c0_7
  generalize (((w.alloc (.cells #[.slice am nm cm, .int .i64 q, .int .i64 bx, .int .i64 cy, .int .i64 lo, .int .i64 hi, .slice an nn cn, .slice al nl cl] 42)).alloc (.cells #[.slice a n ca] 40)).alloc (.cells #[.slice none 0 0] 40)) = V at *
  refine (HR.out _ bV).mono ?_
  rintro e w1 ⟨rfl, bl1⟩
  have b1 := below_to bV bl1
  have L0 := K0.to bl1
  have L1 := K1.to bl1
  have L2 := K2.to bl1
  clear bV bl1 K0 K1 K2 HR
  cases hr : rmB zs q bx cy lo hi ps qs with
  | false =>
    have HN := Lib.hid (rp_no (rs := rs) hr)
    clear hr
    have q2 := L2.cell0 (i := 0) (v := .slice none 0 0) rfl
    have f2 := L2.free 0
    go_wp2_with fail
    exact bodyPost_ret (v := .tuple #[.agg #[.slice none 0 0], .bool false]) (by simp [results, Tryz.results44, go_sem, q2]) rfl (AnsR.no HN.out.1 HN.out.2 (b1.setCell (p := ⟨w.heap.size + 1 + 1, 0, none⟩) (Nat.le_add_right _ 2) _))
  | true =>
    have HN := Lib.hid (rp_yes (rs := rs) hr)
    clear hr
    have p0 := L1.cell0 (i := 0) (v := .slice a n ca) rfl
    have k6 := L0.c8_6
    go_wp2_with fail
    clear p0 k6
    refine (HE.out _ b1).mono ?_
    rintro e w2 ⟨ag, cg, rfl, ho, bl2⟩
    have M2 := L2.to bl2
    have q2 := M2.cell0 (i := 0) (v := .slice none 0 0) rfl
    have f2 := M2.free 0
    have HF := Lib.hid (AnsR.put (p := ⟨w.heap.size + 1 + 1, 0, none⟩) (w := w) (L := rpL zs q bx cy lo hi ps qs rs) (b := rpB zs q bx cy lo hi ps qs rs) ho HN.out.1 HN.out.2 b1 bl2 L2.lt (Nat.le_add_right _ 2))
    clear ho bl2 b1 L0 L1 L2 M2 HE HN
    generalize (eroL rs ps).length = len at *
    generalize eroB rs ps = R at *
    go_wp2_with fail
    exact bodyPost_ret (v := .tuple #[.agg #[.slice ag len cg], .bool R]) (by simp [results, Tryz.results44, go_sem, q2]) rfl HF.out
end Go.Proofs.YtibkmhmeoelpdaaGreat
