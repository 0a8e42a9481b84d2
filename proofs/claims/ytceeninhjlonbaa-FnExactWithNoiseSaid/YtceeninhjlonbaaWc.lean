/- WithRange and WithNoise of the model, over the translation. -/
import Derived.Test.YtceeninhjlonbaaWb
namespace Go.Proofs.Ytceeninhjlonbaa
open Go.RowKit
open Geo (H3)

theorem ROwn.grow {w w' : World} {B nm cm nn cn nl cl : Nat} {am an al : Option Addr} {zs : List Int} {ps qs : List H3} {row : Option Nat} (h : ROwn w B am nm cm zs an nn cn ps al nl cl qs) (g : w.grownBy w' row) (h1 : ∀ p, (Value.slice am nm cm).ownBlock = some p → some p ≠ row) (h2 : ∀ p, (Value.slice an nn cn).ownBlock = some p → some p ≠ row) (h3 : ∀ p, (Value.slice al nl cl).ownBlock = some p → some p ≠ row) : ROwn w' B am nm cm zs an nn cn ps al nl cl qs :=
  ⟨own_grow h.om g h1, own_grow h.on g h2, own_grow h.ol g h3, h.d1, h.d2, h.d3⟩
theorem grown_one (w : World) (g o : Nat) (u : Value) : w.grownBy (w.setCell ⟨g, o, none⟩ u) (some g) := grown_set (g := g) (n := 0) (cap := 0) (World.grownBy.refl _ _) o u
theorem put8_own' {W : World} {B C n s : Nat} {e : TypeId} {v : Value} {xs : List Value} (h : W.ownsRow C e s v n xs) (hB : ∀ p, v.ownBlock = some p → p ≠ B) (a0 a1 a2 a3 a4 a5 a6 a7 : Value) : (put8 W B a0 a1 a2 a3 a4 a5 a6 a7).ownsRow C e s v n xs := by
  have k : ∀ p, v.ownBlock = some p → some p ≠ some B := fun p hp e => hB p hp (Option.some.inj e)
  unfold put8
  exact own_grow (own_grow (own_grow (own_grow (own_grow (own_grow (own_grow (own_grow h (grown_one _ _ _ _) k) (grown_one _ _ _ _) k) (grown_one _ _ _ _) k) (grown_one _ _ _ _) k) (grown_one _ _ _ _) k) (grown_one _ _ _ _) k) (grown_one _ _ _ _) k) (grown_one _ _ _ _) k
theorem rows_lt' {w : World} {B nm cm nn cn nl cl : Nat} {am an al : Option Addr} {zs : List Int} {ps qs : List H3} (h : ROwn w B am nm cm zs an nn cn ps al nl cl qs) : (∀ p, (Value.slice am nm cm).ownBlock = some p → B ≤ p ∧ p < w.heap.size) ∧ (∀ p, (Value.slice an nn cn).ownBlock = some p → B ≤ p ∧ p < w.heap.size) ∧ (∀ p, (Value.slice al nl cl).ownBlock = some p → B ≤ p ∧ p < w.heap.size) :=
  ⟨fun _ k => own_block_lt h.om k, fun _ k => own_block_lt h.on k, fun _ k => own_block_lt h.ol k⟩
set_option maxRecDepth 100000 in
set_option maxHeartbeats 3200000 in
theorem spec_wra (am : Option Addr) (nm cm : Nat) (zs : List Int) (q bx cy lo hi : Int) (an : Option Addr) (nn cn : Nat) (ps : List H3) (al : Option Addr) (nl cl : Nat) (qs : List H3) (w : World) (lo2 hi2 : Int) (hA : RAt w am nm zs an nn ps al nl qs) (h64 : R64 q bx cy lo hi ps qs) (hle : nm + nn + nl ≤ 1048576) (hnl : RNil am nm cm an nn cn al nl cl) (hl2 : -9223372036854775808 ≤ lo2 ∧ lo2 ≤ 9223372036854775807) (hh2 : -9223372036854775808 ≤ hi2 ∧ hi2 ≤ 9223372036854775807) :
    Calls Try.prog 21 #[.agg #[.slice am nm cm, .int .i64 q, .int .i64 bx, .int .i64 cy, .int .i64 lo, .int .i64 hi, .slice an nn cn, .slice al nl cl], .int .i64 lo2, .int .i64 hi2] w (AnsM w (rmB zs q bx cy lo hi ps qs && rmB zs q bx cy lo2 hi2 ps qs) zs q bx cy lo2 hi2 ps qs) := by
  have bV := below_bx2 (below_one w (.cells #[.slice am nm cm, .int .i64 q, .int .i64 bx, .int .i64 cy, .int .i64 lo, .int .i64 hi, .slice an nn cn, .slice al nl cl] 39)) (.cells #[.slice none 0 0, .int .i64 0, .int .i64 0, .int .i64 0, .int .i64 0, .int .i64 0, .slice none 0 0, .slice none 0 0] 39)
  have K0 := (blk_new w #[.slice am nm cm, .int .i64 q, .int .i64 bx, .int .i64 cy, .int .i64 lo, .int .i64 hi, .slice an nn cn, .slice al nl cl] 39 (b := w.heap.size) (by simp)).to (below_one _ (.cells #[.slice none 0 0, .int .i64 0, .int .i64 0, .int .i64 0, .int .i64 0, .int .i64 0, .slice none 0 0, .slice none 0 0] 39))
  have K1 := blk_new (w.alloc (.cells #[.slice am nm cm, .int .i64 q, .int .i64 bx, .int .i64 cy, .int .i64 lo, .int .i64 hi, .slice an nn cn, .slice al nl cl] 39)) #[.slice none 0 0, .int .i64 0, .int .i64 0, .int .i64 0, .int .i64 0, .int .i64 0, .slice none 0 0, .slice none 0 0] 39 (b := w.heap.size + 1) (by simp)
  have HC := Lib.hid (fun V (h : Below w.heap.size w V) => spec_cpy am nm cm zs q bx cy lo hi an nn cn ps al nl cl qs V (hA.below h) hnl hle)
  have HR := Lib.hid (fun V (h : Below w.heap.size w V) => spec_room am nm cm zs q bx cy lo hi an nn cn ps al nl cl qs V _ rfl (hA.below h) h64 hnl hle)
  have HR2 := Lib.hid (fun V am1 cm1 an1 cn1 al1 cl1 (k0 : RNil am1 nm cm1 an1 nn cn1 al1 nl cl1) (k1 : RAt V am1 nm zs an1 nn ps al1 nl qs) => spec_room am1 nm cm1 zs q bx cy lo2 hi2 an1 nn cn1 ps al1 nl cl1 qs V _ rfl k1 ⟨h64.q, h64.bx, h64.cy, hl2, hh2, h64.ps, h64.qs⟩ k0 hle)
  have HLM := Lib.hid hA.lm
  have HLL := Lib.hid hA.ll
  have HLN := Lib.hid hA.ln
  clear hA h64 hnl hl2 hh2
  have c0_0 := K0.c8_0
  have c0_1 := K0.c8_1
  have c0_2 := K0.c8_2
  have c0_3 := K0.c8_3
  have c0_4 := K0.c8_4
  have c0_5 := K0.c8_5
  have c0_6 := K0.c8_6
  have c0_7 := K0.c8_7
  go_enter Try.func21, Try.ntmps21
  go_wp2_with fail
  clear c0_0 c0_1 c0_2 c0_3 c0_4 c0_5 c0_6 c0_7
  generalize ((w.alloc (.cells #[.slice am nm cm, .int .i64 q, .int .i64 bx, .int .i64 cy, .int .i64 lo, .int .i64 hi, .slice an nn cn, .slice al nl cl] 39)).alloc (.cells #[.slice none 0 0, .int .i64 0, .int .i64 0, .int .i64 0, .int .i64 0, .int .i64 0, .slice none 0 0, .slice none 0 0] 39)) = V at *
  refine (HC.out _ bV).mono ?_
  rintro e w1 ⟨am1, cm1, an1, cn1, al1, cl1, rfl, ho, bl1⟩
  have b1 := below_to bV bl1
  have hrw := rows_lt' ho
  have zV := bl1.size
  have zK := K1.lt
  have bY := below_one w1 (.cells #[.slice am1 nm cm1, .int .i64 q, .int .i64 bx, .int .i64 cy, .int .i64 lo, .int .i64 hi, .slice an1 nn cn1, .slice al1 nl cl1] 39)
  have L0 := (K0.to bl1).to bY
  have L1 := (K1.to bl1).to bY
  have L9 := blk_new w1 #[.slice am1 nm cm1, .int .i64 q, .int .i64 bx, .int .i64 cy, .int .i64 lo, .int .i64 hi, .slice an1 nn cn1, .slice al1 nl cl1] 39 rfl
  have O := Lib.hid (ho.below bY)
  have b2 := below_to b1 bY
  have zU : (w1.alloc (.cells #[.slice am1 nm cm1, .int .i64 q, .int .i64 bx, .int .i64 cy, .int .i64 lo, .int .i64 hi, .slice an1 nn cn1, .slice al1 nl cl1] 39)).heap.size = w1.heap.size + 1 := by simp
  clear ho bl1 b1 bY bV HC K0 K1
  go_upto_region 2 with fail
  generalize w1.alloc (.cells #[.slice am1 nm cm1, .int .i64 q, .int .i64 bx, .int .i64 cy, .int .i64 lo, .int .i64 hi, .slice an1 nn cn1, .slice al1 nl cl1] 39) = U at *
  obtain ⟨B, hB⟩ : ∃ b, w1.heap.size = b := ⟨_, rfl⟩
  rw [hB] at L9 zU zV hrw ⊢
  clear hB
  obtain ⟨hr1, hr2, hr3⟩ := hrw
  have HR1 := Lib.hid hr1
  have HRN := Lib.hid hr2
  have HRL := Lib.hid hr3
  clear hr1 hr2 hr3
  have N9 := (L9.s8_4 (.int .i64 lo2)).s8_5 (.int .i64 hi2)
  have N0 := blk_far (blk_far L0 (p := ⟨B, 4, none⟩) (.int .i64 lo2) (by simp only; omega)) (p := ⟨B, 5, none⟩) (.int .i64 hi2) (by simp only; omega)
  have N1 := blk_far (blk_far L1 (p := ⟨B, 4, none⟩) (.int .i64 lo2) (by simp only; omega)) (p := ⟨B, 5, none⟩) (.int .i64 hi2) (by simp only; omega)
  have bX := (b2.setCell (p := ⟨B, 4, none⟩) (by simp only; omega) (.int .i64 lo2)).setCell (p := ⟨B, 5, none⟩) (by simp only; omega) (.int .i64 hi2)
  have OX := Lib.hid (O.out.grow ((grown_one U B 4 (.int .i64 lo2)).trans (grown_one _ B 5 (.int .i64 hi2))) (fun p hp e => by have := (HR1.out p hp).2; simp only [Option.some.injEq] at e; omega) (fun p hp e => by have := (HRN.out p hp).2; simp only [Option.some.injEq] at e; omega) (fun p hp e => by have := (HRL.out p hp).2; simp only [Option.some.injEq] at e; omega))
  have sX : ((U.setCell ⟨B, 4, none⟩ (.int .i64 lo2)).setCell ⟨B, 5, none⟩ (.int .i64 hi2)).heap.size = U.heap.size := by simp
  have f4 := L9.free 4
  have c4 := L9.c8_4
  have f5 := (L9.s8_4 (.int .i64 lo2)).free 5
  have c5 := (L9.s8_4 (.int .i64 lo2)).c8_5
  have k0 := N0.c8_0
  have k1 := N0.c8_1
  have k2 := N0.c8_2
  have k3 := N0.c8_3
  have k4 := N0.c8_4
  have k5 := N0.c8_5
  have k6 := N0.c8_6
  have k7 := N0.c8_7
  go_wp2_with fail
  clear f4 c4 f5 c5 k0 k1 k2 k3 k4 k5 k6 k7 L0 L1 L9 b2 O
  generalize (U.setCell ⟨B, 4, none⟩ (.int .i64 lo2)).setCell ⟨B, 5, none⟩ (.int .i64 hi2) = X at *
  refine (HR.out X bX).mono ?_
  rintro e w3 ⟨rfl, bl3⟩
  have b4 := below_to bX bl3
  have Q9 := N9.to bl3
  have QZ := N1.to bl3
  have O3 := Lib.hid (OX.out.below bl3)
  clear bX bl3 HR OX N9 N0 N1
  generalize rmB zs q bx cy lo hi ps qs = r1 at *
  generalize rmB zs q bx cy lo2 hi2 ps qs = r2 at *
  cases r1 with
  | false =>
    clear O3 Q9 HR2
    have f0 := QZ.free 0
    have c0 := QZ.c8_0
    have f1 := QZ.free 1
    have c1 := QZ.c8_1
    have f2 := QZ.free 2
    have c2 := QZ.c8_2
    have f3 := QZ.free 3
    have c3 := QZ.c8_3
    have f4 := QZ.free 4
    have c4 := QZ.c8_4
    have f5 := QZ.free 5
    have c5 := QZ.c8_5
    have f6 := QZ.free 6
    have c6 := QZ.c8_6
    have f7 := QZ.free 7
    have c7 := QZ.c8_7
    go_wp2_with fail
    clear f0 f1 f2 f3 f4 f5 f6 f7 c0 c1 c2 c3 c4 c5 c6 c7
    obtain hz : Blk (put8 w3 (w.heap.size + 1) (.slice none 0 0) (.int .i64 0) (.int .i64 0) (.int .i64 0) (.int .i64 0) (.int .i64 0) (.slice none 0 0) (.slice none 0 0)) _ _ _ := put8_blk QZ _ _ _ _ _ _ _ _
    have e0 := hz.c8_0
    have e1 := hz.c8_1
    have e2 := hz.c8_2
    have e3 := hz.c8_3
    have e4 := hz.c8_4
    have e5 := hz.c8_5
    have e6 := hz.c8_6
    have e7 := hz.c8_7
    unfold put8 at e0 e1 e2 e3 e4 e5 e6 e7
    exact bodyPost_ret (v := .tuple #[.agg #[.slice none 0 0, .int .i64 0, .int .i64 0, .int .i64 0, .int .i64 0, .int .i64 0, .slice none 0 0, .slice none 0 0], .bool false]) (by simp [results, Try.results21, go_sem, e0, e1, e2, e3, e4, e5, e6, e7]) rfl (AnsM.no (by simp) (put8_below b4 (Nat.le_add_right _ 1) _ _ _ _ _ _ _ _))
  | true =>
    have k0 := Q9.c8_0
    have k1 := Q9.c8_1
    have k2 := Q9.c8_2
    have k3 := Q9.c8_3
    have k4 := Q9.c8_4
    have k5 := Q9.c8_5
    have k6 := Q9.c8_6
    have k7 := Q9.c8_7
    go_wp2_with fail
    clear k0 k1 k2 k3 k4 k5 k6 k7
    refine (HR2.out w3 _ _ _ _ _ _ O3.out.nil O3.out.at).mono ?_
    rintro e w5 ⟨rfl, bl5⟩
    have b5 := below_to b4 bl5
    have R9 := Q9.to bl5
    have RZ := QZ.to bl5
    have O5 := Lib.hid (O3.out.below bl5)
    clear b4 bl5 Q9 QZ O3 HR2
    cases r2 with
    | false =>
      clear O5 R9
      have f0 := RZ.free 0
      have c0 := RZ.c8_0
      have f1 := RZ.free 1
      have c1 := RZ.c8_1
      have f2 := RZ.free 2
      have c2 := RZ.c8_2
      have f3 := RZ.free 3
      have c3 := RZ.c8_3
      have f4 := RZ.free 4
      have c4 := RZ.c8_4
      have f5 := RZ.free 5
      have c5 := RZ.c8_5
      have f6 := RZ.free 6
      have c6 := RZ.c8_6
      have f7 := RZ.free 7
      have c7 := RZ.c8_7
      go_wp2_with fail
      clear f0 f1 f2 f3 f4 f5 f6 f7 c0 c1 c2 c3 c4 c5 c6 c7
      obtain hz : Blk (put8 w5 (w.heap.size + 1) (.slice none 0 0) (.int .i64 0) (.int .i64 0) (.int .i64 0) (.int .i64 0) (.int .i64 0) (.slice none 0 0) (.slice none 0 0)) _ _ _ := put8_blk RZ _ _ _ _ _ _ _ _
      have e0 := hz.c8_0
      have e1 := hz.c8_1
      have e2 := hz.c8_2
      have e3 := hz.c8_3
      have e4 := hz.c8_4
      have e5 := hz.c8_5
      have e6 := hz.c8_6
      have e7 := hz.c8_7
      unfold put8 at e0 e1 e2 e3 e4 e5 e6 e7
      exact bodyPost_ret (v := .tuple #[.agg #[.slice none 0 0, .int .i64 0, .int .i64 0, .int .i64 0, .int .i64 0, .int .i64 0, .slice none 0 0, .slice none 0 0], .bool false]) (by simp [results, Try.results21, go_sem, e0, e1, e2, e3, e4, e5, e6, e7]) rfl (AnsM.no (by simp) (put8_below b5 (Nat.le_add_right _ 1) _ _ _ _ _ _ _ _))
    | true =>
      have f0 := RZ.free 0
      have c0 := RZ.c8_0
      have k0 := R9.c8_0
      have f1 := RZ.free 1
      have c1 := RZ.c8_1
      have k1 := R9.c8_1
      have f2 := RZ.free 2
      have c2 := RZ.c8_2
      have k2 := R9.c8_2
      have f3 := RZ.free 3
      have c3 := RZ.c8_3
      have k3 := R9.c8_3
      have f4 := RZ.free 4
      have c4 := RZ.c8_4
      have k4 := R9.c8_4
      have f5 := RZ.free 5
      have c5 := RZ.c8_5
      have k5 := R9.c8_5
      have f6 := RZ.free 6
      have c6 := RZ.c8_6
      have k6 := R9.c8_6
      have f7 := RZ.free 7
      have c7 := RZ.c8_7
      have k7 := R9.c8_7
      go_wp2_with fail
      clear f0 f1 f2 f3 f4 f5 f6 f7 c0 c1 c2 c3 c4 c5 c6 c7 k0 k1 k2 k3 k4 k5 k6 k7
      obtain hz : Blk (put8 w5 (w.heap.size + 1) (.slice am1 nm cm1) (.int .i64 q) (.int .i64 bx) (.int .i64 cy) (.int .i64 lo2) (.int .i64 hi2) (.slice an1 nn cn1) (.slice al1 nl cl1)) _ _ _ := put8_blk RZ _ _ _ _ _ _ _ _
      have e0 := hz.c8_0
      have e1 := hz.c8_1
      have e2 := hz.c8_2
      have e3 := hz.c8_3
      have e4 := hz.c8_4
      have e5 := hz.c8_5
      have e6 := hz.c8_6
      have e7 := hz.c8_7
      unfold put8 at e0 e1 e2 e3 e4 e5 e6 e7
      have HO : ROwn (put8 w5 (w.heap.size + 1) (.slice am1 nm cm1) (.int .i64 q) (.int .i64 bx) (.int .i64 cy) (.int .i64 lo2) (.int .i64 hi2) (.slice an1 nn cn1) (.slice al1 nl cl1)) w.heap.size am1 nm cm1 zs an1 nn cn1 ps al1 nl cl1 qs :=
        ⟨own_base (put8_own' O5.out.om (fun p hp => by have := (HR1.out p hp).1; omega) _ _ _ _ _ _ _ _) (by omega), own_base (put8_own' O5.out.on (fun p hp => by have := (HRN.out p hp).1; omega) _ _ _ _ _ _ _ _) (by omega), own_base (put8_own' O5.out.ol (fun p hp => by have := (HRL.out p hp).1; omega) _ _ _ _ _ _ _ _) (by omega), O5.out.d1, O5.out.d2, O5.out.d3⟩
      exact bodyPost_ret (v := .tuple #[.agg #[.slice am1 nm cm1, .int .i64 q, .int .i64 bx, .int .i64 cy, .int .i64 lo2, .int .i64 hi2, .slice an1 nn cn1, .slice al1 nl cl1], .bool true]) (by simp [results, Try.results21, go_sem, e0, e1, e2, e3, e4, e5, e6, e7]) rfl (AnsM.yes rfl HLM.out HLN.out HLL.out HO (put8_below b5 (Nat.le_add_right _ 1) _ _ _ _ _ _ _ _))
set_option maxRecDepth 100000 in
set_option maxHeartbeats 3200000 in
theorem spec_wno (am : Option Addr) (nm cm : Nat) (zs : List Int) (q bx cy lo hi : Int) (an : Option Addr) (nn cn : Nat) (ps : List H3) (al : Option Addr) (nl cl : Nat) (qs : List H3) (w : World) (an2 : Option Addr) (nn2 cn2 : Nat) (ps2 : List H3) (hA : RAt w am nm zs an nn ps al nl qs) (h64 : R64 q bx cy lo hi ps qs) (hle : nm + nn + nl ≤ 1048576) (hnl : RNil am nm cm an nn cn al nl cl) (hl2 : ps2.length = nn2) (hA2 : HsAt w an2 ps2) (hz2 : an2 = none → nn2 = 0 ∧ cn2 = 0) (h642 : ∀ h ∈ ps2, In64 h) (hle2 : nm + nn2 + nl ≤ 1048576) :
    Calls Try.prog 25 #[.agg #[.slice am nm cm, .int .i64 q, .int .i64 bx, .int .i64 cy, .int .i64 lo, .int .i64 hi, .slice an nn cn, .slice al nl cl], .agg #[.slice an2 nn2 cn2]] w (AnsM w (rmB zs q bx cy lo hi ps qs && rmB zs q bx cy lo hi ps2 qs) zs q bx cy lo hi ps2 qs) := by
  have bV := below_bx2 (below_bx2 (below_one w (.cells #[.slice am nm cm, .int .i64 q, .int .i64 bx, .int .i64 cy, .int .i64 lo, .int .i64 hi, .slice an nn cn, .slice al nl cl] 39)) (.cells #[.slice an2 nn2 cn2] 37)) (.cells #[.slice none 0 0, .int .i64 0, .int .i64 0, .int .i64 0, .int .i64 0, .int .i64 0, .slice none 0 0, .slice none 0 0] 39)
  have K0 := ((blk_new w #[.slice am nm cm, .int .i64 q, .int .i64 bx, .int .i64 cy, .int .i64 lo, .int .i64 hi, .slice an nn cn, .slice al nl cl] 39 (b := w.heap.size) (by simp)).to (below_one _ (.cells #[.slice an2 nn2 cn2] 37))).to (below_one _ (.cells #[.slice none 0 0, .int .i64 0, .int .i64 0, .int .i64 0, .int .i64 0, .int .i64 0, .slice none 0 0, .slice none 0 0] 39))
  have K1 := (blk_new (w.alloc (.cells #[.slice am nm cm, .int .i64 q, .int .i64 bx, .int .i64 cy, .int .i64 lo, .int .i64 hi, .slice an nn cn, .slice al nl cl] 39)) #[.slice an2 nn2 cn2] 37 (b := w.heap.size + 1) (by simp)).to (below_one _ (.cells #[.slice none 0 0, .int .i64 0, .int .i64 0, .int .i64 0, .int .i64 0, .int .i64 0, .slice none 0 0, .slice none 0 0] 39))
  have K2 := blk_new ((w.alloc (.cells #[.slice am nm cm, .int .i64 q, .int .i64 bx, .int .i64 cy, .int .i64 lo, .int .i64 hi, .slice an nn cn, .slice al nl cl] 39)).alloc (.cells #[.slice an2 nn2 cn2] 37)) #[.slice none 0 0, .int .i64 0, .int .i64 0, .int .i64 0, .int .i64 0, .int .i64 0, .slice none 0 0, .slice none 0 0] 39 (b := w.heap.size + 1 + 1) (by simp)
  have HC := Lib.hid (fun V (h : Below w.heap.size w V) => spec_cpy am nm cm zs q bx cy lo hi an nn cn ps al nl cl qs V (hA.below h) hnl hle)
  have HR := Lib.hid (fun V (h : Below w.heap.size w V) => spec_room am nm cm zs q bx cy lo hi an nn cn ps al nl cl qs V _ rfl (hA.below h) h64 hnl hle)
  have HR2 := Lib.hid (fun V am1 cm1 an1 cn1 al1 cl1 (k0 : RNil am1 nm cm1 an1 nn2 cn1 al1 nl cl1) (k1 : RAt V am1 nm zs an1 nn2 ps2 al1 nl qs) => spec_room am1 nm cm1 zs q bx cy lo hi an1 nn2 cn1 ps2 al1 nl cl1 qs V _ rfl k1 ⟨h64.q, h64.bx, h64.cy, h64.lo, h64.hi, h642, h64.qs⟩ k0 hle2)
  have HLM := Lib.hid hA.lm
  have HLL := Lib.hid hA.ll
  have HLN := Lib.hid hl2
  have HG := Lib.hid (fun V (h : Below w.heap.size w V) => spec_lrg an2 nn2 cn2 ps2 V hl2 (by omega) hz2 (hA2.below h))
  clear hA h64 hnl hl2 hA2 hz2 h642
  have c0_0 := K0.c8_0
  have c0_1 := K0.c8_1
  have c0_2 := K0.c8_2
  have c0_3 := K0.c8_3
  have c0_4 := K0.c8_4
  have c0_5 := K0.c8_5
  have c0_6 := K0.c8_6
  have c0_7 := K0.c8_7
  go_enter Try.func25, Try.ntmps25
  go_wp2_with fail
  clear c0_0 c0_1 c0_2 c0_3 c0_4 c0_5 c0_6 c0_7
  generalize (((w.alloc (.cells #[.slice am nm cm, .int .i64 q, .int .i64 bx, .int .i64 cy, .int .i64 lo, .int .i64 hi, .slice an nn cn, .slice al nl cl] 39)).alloc (.cells #[.slice an2 nn2 cn2] 37)).alloc (.cells #[.slice none 0 0, .int .i64 0, .int .i64 0, .int .i64 0, .int .i64 0, .int .i64 0, .slice none 0 0, .slice none 0 0] 39)) = V at *
  refine (HC.out _ bV).mono ?_
  rintro e w1 ⟨am1, cm1, an1, cn1, al1, cl1, rfl, ho, bl1⟩
  have b1 := below_to bV bl1
  have hrw := rows_lt' ho
  have zV := bl1.size
  have zK := K2.lt
  have bY := below_one w1 (.cells #[.slice am1 nm cm1, .int .i64 q, .int .i64 bx, .int .i64 cy, .int .i64 lo, .int .i64 hi, .slice an1 nn cn1, .slice al1 nl cl1] 39)
  have L0 := (K0.to bl1).to bY
  have L1 := (K1.to bl1).to bY
  have L2 := (K2.to bl1).to bY
  have L9 := blk_new w1 #[.slice am1 nm cm1, .int .i64 q, .int .i64 bx, .int .i64 cy, .int .i64 lo, .int .i64 hi, .slice an1 nn cn1, .slice al1 nl cl1] 39 rfl
  have O := Lib.hid (ho.below bY)
  have b2 := below_to b1 bY
  have zU : (w1.alloc (.cells #[.slice am1 nm cm1, .int .i64 q, .int .i64 bx, .int .i64 cy, .int .i64 lo, .int .i64 hi, .slice an1 nn cn1, .slice al1 nl cl1] 39)).heap.size = w1.heap.size + 1 := by simp
  clear ho bl1 b1 bY bV HC K0 K1 K2
  have k1 := L1.cell0 (i := 0) (v := .slice an2 nn2 cn2) rfl
  go_upto_region 2 with fail
  generalize w1.alloc (.cells #[.slice am1 nm cm1, .int .i64 q, .int .i64 bx, .int .i64 cy, .int .i64 lo, .int .i64 hi, .slice an1 nn cn1, .slice al1 nl cl1] 39) = U at *
  obtain ⟨B, hB⟩ : ∃ b, w1.heap.size = b := ⟨_, rfl⟩
  rw [hB] at L9 zU zV hrw ⊢
  clear hB
  obtain ⟨hr1, hr2, hr3⟩ := hrw
  have HR1 := Lib.hid hr1
  have HRN := Lib.hid hr2
  have HRL := Lib.hid hr3
  clear hr1 hr2 hr3
  go_wp2_with fail
  clear k1
  refine (HG.out U b2).mono ?_
  rintro e w2 ⟨an3, cn3, rfl, hog, bl2⟩
  have b3 := below_to b2 bl2
  have hr4 := Lib.hid (fun p (hp : (Value.slice an3 nn2 cn3).ownBlock = some p) => own_block_lt hog hp)
  have z2 := bl2.size
  have M0 := L0.to bl2
  have M1 := L1.to bl2
  have M2 := L2.to bl2
  have M9 := L9.to bl2
  have O2 := Lib.hid (O.out.below bl2)
  have OG := Lib.hid hog
  clear hog bl2 b2 O L0 L1 L2 L9
  have N9 := M9.s8_6 (.slice an3 nn2 cn3)
  have N0 := blk_far M0 (p := ⟨B, 6, none⟩) (.slice an3 nn2 cn3) (by simp only; omega)
  have N1 := blk_far M1 (p := ⟨B, 6, none⟩) (.slice an3 nn2 cn3) (by simp only; omega)
  have N2 := blk_far M2 (p := ⟨B, 6, none⟩) (.slice an3 nn2 cn3) (by simp only; omega)
  have bX := b3.setCell (p := ⟨B, 6, none⟩) (by simp only; omega) (.slice an3 nn2 cn3)
  have OX := Lib.hid (show ROwn (w2.setCell ⟨B, 6, none⟩ (.slice an3 nn2 cn3)) w.heap.size am1 nm cm1 zs an3 nn2 cn3 ps2 al1 nl cl1 qs from ⟨own_base (own_grow O2.out.om (grown_one w2 B 6 (.slice an3 nn2 cn3)) (fun p hp e => by have := (HR1.out p hp).2; simp only [Option.some.injEq] at e; omega)) (by omega), own_base (own_grow OG.out (grown_one w2 B 6 (.slice an3 nn2 cn3)) (fun p hp e => by have := (hr4.out p hp).1; simp only [Option.some.injEq] at e; omega)) (by omega), own_base (own_grow O2.out.ol (grown_one w2 B 6 (.slice an3 nn2 cn3)) (fun p hp e => by have := (HRL.out p hp).2; simp only [Option.some.injEq] at e; omega)) (by omega), fun p hp hq => by have := (HR1.out p hp).2; have := (hr4.out p hq).1; omega, O2.out.d2, fun p hp hq => by have := (hr4.out p hp).1; have := (HRL.out p hq).2; omega⟩)
  have sX : (w2.setCell ⟨B, 6, none⟩ (.slice an3 nn2 cn3)).heap.size = w2.heap.size := by simp
  have f6 := M9.free 6
  have c6 := M9.c8_6
  have k0 := N0.c8_0
  have k1 := N0.c8_1
  have k2 := N0.c8_2
  have k3 := N0.c8_3
  have k4 := N0.c8_4
  have k5 := N0.c8_5
  have k6 := N0.c8_6
  have k7 := N0.c8_7
  go_wp2_with fail
  clear f6 c6 k0 k1 k2 k3 k4 k5 k6 k7 b3 O2 OG HG M0 M1 M2 M9
  generalize w2.setCell ⟨B, 6, none⟩ (.slice an3 nn2 cn3) = X at *
  refine (HR.out X bX).mono ?_
  rintro e w3 ⟨rfl, bl3⟩
  have b4 := below_to bX bl3
  have Q9 := N9.to bl3
  have QZ := N2.to bl3
  have O3 := Lib.hid (OX.out.below bl3)
  clear bX bl3 HR OX N9 N0 N1 N2
  generalize rmB zs q bx cy lo hi ps qs = r1 at *
  generalize rmB zs q bx cy lo hi ps2 qs = r2 at *
  cases r1 with
  | false =>
    clear O3 Q9 HR2
    have f0 := QZ.free 0
    have c0 := QZ.c8_0
    have f1 := QZ.free 1
    have c1 := QZ.c8_1
    have f2 := QZ.free 2
    have c2 := QZ.c8_2
    have f3 := QZ.free 3
    have c3 := QZ.c8_3
    have f4 := QZ.free 4
    have c4 := QZ.c8_4
    have f5 := QZ.free 5
    have c5 := QZ.c8_5
    have f6 := QZ.free 6
    have c6 := QZ.c8_6
    have f7 := QZ.free 7
    have c7 := QZ.c8_7
    go_wp2_with fail
    clear f0 f1 f2 f3 f4 f5 f6 f7 c0 c1 c2 c3 c4 c5 c6 c7
    obtain hz : Blk (put8 w3 (w.heap.size + 1 + 1) (.slice none 0 0) (.int .i64 0) (.int .i64 0) (.int .i64 0) (.int .i64 0) (.int .i64 0) (.slice none 0 0) (.slice none 0 0)) _ _ _ := put8_blk QZ _ _ _ _ _ _ _ _
    have e0 := hz.c8_0
    have e1 := hz.c8_1
    have e2 := hz.c8_2
    have e3 := hz.c8_3
    have e4 := hz.c8_4
    have e5 := hz.c8_5
    have e6 := hz.c8_6
    have e7 := hz.c8_7
    unfold put8 at e0 e1 e2 e3 e4 e5 e6 e7
    exact bodyPost_ret (v := .tuple #[.agg #[.slice none 0 0, .int .i64 0, .int .i64 0, .int .i64 0, .int .i64 0, .int .i64 0, .slice none 0 0, .slice none 0 0], .bool false]) (by simp [results, Try.results25, go_sem, e0, e1, e2, e3, e4, e5, e6, e7]) rfl (AnsM.no (by simp) (put8_below b4 (Nat.le_add_right _ 2) _ _ _ _ _ _ _ _))
  | true =>
    have k0 := Q9.c8_0
    have k1 := Q9.c8_1
    have k2 := Q9.c8_2
    have k3 := Q9.c8_3
    have k4 := Q9.c8_4
    have k5 := Q9.c8_5
    have k6 := Q9.c8_6
    have k7 := Q9.c8_7
    go_wp2_with fail
    clear k0 k1 k2 k3 k4 k5 k6 k7
    refine (HR2.out w3 _ _ _ _ _ _ O3.out.nil O3.out.at).mono ?_
    rintro e w5 ⟨rfl, bl5⟩
    have b5 := below_to b4 bl5
    have R9 := Q9.to bl5
    have RZ := QZ.to bl5
    have O5 := Lib.hid (O3.out.below bl5)
    clear b4 bl5 Q9 QZ O3 HR2
    cases r2 with
    | false =>
      clear O5 R9
      have f0 := RZ.free 0
      have c0 := RZ.c8_0
      have f1 := RZ.free 1
      have c1 := RZ.c8_1
      have f2 := RZ.free 2
      have c2 := RZ.c8_2
      have f3 := RZ.free 3
      have c3 := RZ.c8_3
      have f4 := RZ.free 4
      have c4 := RZ.c8_4
      have f5 := RZ.free 5
      have c5 := RZ.c8_5
      have f6 := RZ.free 6
      have c6 := RZ.c8_6
      have f7 := RZ.free 7
      have c7 := RZ.c8_7
      go_wp2_with fail
      clear f0 f1 f2 f3 f4 f5 f6 f7 c0 c1 c2 c3 c4 c5 c6 c7
      obtain hz : Blk (put8 w5 (w.heap.size + 1 + 1) (.slice none 0 0) (.int .i64 0) (.int .i64 0) (.int .i64 0) (.int .i64 0) (.int .i64 0) (.slice none 0 0) (.slice none 0 0)) _ _ _ := put8_blk RZ _ _ _ _ _ _ _ _
      have e0 := hz.c8_0
      have e1 := hz.c8_1
      have e2 := hz.c8_2
      have e3 := hz.c8_3
      have e4 := hz.c8_4
      have e5 := hz.c8_5
      have e6 := hz.c8_6
      have e7 := hz.c8_7
      unfold put8 at e0 e1 e2 e3 e4 e5 e6 e7
      exact bodyPost_ret (v := .tuple #[.agg #[.slice none 0 0, .int .i64 0, .int .i64 0, .int .i64 0, .int .i64 0, .int .i64 0, .slice none 0 0, .slice none 0 0], .bool false]) (by simp [results, Try.results25, go_sem, e0, e1, e2, e3, e4, e5, e6, e7]) rfl (AnsM.no (by simp) (put8_below b5 (Nat.le_add_right _ 2) _ _ _ _ _ _ _ _))
    | true =>
      have f0 := RZ.free 0
      have c0 := RZ.c8_0
      have k0 := R9.c8_0
      have f1 := RZ.free 1
      have c1 := RZ.c8_1
      have k1 := R9.c8_1
      have f2 := RZ.free 2
      have c2 := RZ.c8_2
      have k2 := R9.c8_2
      have f3 := RZ.free 3
      have c3 := RZ.c8_3
      have k3 := R9.c8_3
      have f4 := RZ.free 4
      have c4 := RZ.c8_4
      have k4 := R9.c8_4
      have f5 := RZ.free 5
      have c5 := RZ.c8_5
      have k5 := R9.c8_5
      have f6 := RZ.free 6
      have c6 := RZ.c8_6
      have k6 := R9.c8_6
      have f7 := RZ.free 7
      have c7 := RZ.c8_7
      have k7 := R9.c8_7
      go_wp2_with fail
      clear f0 f1 f2 f3 f4 f5 f6 f7 c0 c1 c2 c3 c4 c5 c6 c7 k0 k1 k2 k3 k4 k5 k6 k7
      obtain hz : Blk (put8 w5 (w.heap.size + 1 + 1) (.slice am1 nm cm1) (.int .i64 q) (.int .i64 bx) (.int .i64 cy) (.int .i64 lo) (.int .i64 hi) (.slice an3 nn2 cn3) (.slice al1 nl cl1)) _ _ _ := put8_blk RZ _ _ _ _ _ _ _ _
      have e0 := hz.c8_0
      have e1 := hz.c8_1
      have e2 := hz.c8_2
      have e3 := hz.c8_3
      have e4 := hz.c8_4
      have e5 := hz.c8_5
      have e6 := hz.c8_6
      have e7 := hz.c8_7
      unfold put8 at e0 e1 e2 e3 e4 e5 e6 e7
      have HO : ROwn (put8 w5 (w.heap.size + 1 + 1) (.slice am1 nm cm1) (.int .i64 q) (.int .i64 bx) (.int .i64 cy) (.int .i64 lo) (.int .i64 hi) (.slice an3 nn2 cn3) (.slice al1 nl cl1)) w.heap.size am1 nm cm1 zs an3 nn2 cn3 ps2 al1 nl cl1 qs :=
        ⟨own_base (put8_own' O5.out.om (fun p hp => by have := (HR1.out p hp).1; omega) _ _ _ _ _ _ _ _) (by omega), own_base (put8_own' O5.out.on (fun p hp => by have := (hr4.out p hp).1; omega) _ _ _ _ _ _ _ _) (by omega), own_base (put8_own' O5.out.ol (fun p hp => by have := (HRL.out p hp).1; omega) _ _ _ _ _ _ _ _) (by omega), O5.out.d1, O5.out.d2, O5.out.d3⟩
      exact bodyPost_ret (v := .tuple #[.agg #[.slice am1 nm cm1, .int .i64 q, .int .i64 bx, .int .i64 cy, .int .i64 lo, .int .i64 hi, .slice an3 nn2 cn3, .slice al1 nl cl1], .bool true]) (by simp [results, Try.results25, go_sem, e0, e1, e2, e3, e4, e5, e6, e7]) rfl (AnsM.yes rfl HLM.out HLN.out HLL.out HO (put8_below b5 (Nat.le_add_right _ 2) _ _ _ _ _ _ _ _))
end Go.Proofs.Ytceeninhjlonbaa
