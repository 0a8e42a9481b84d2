/- What laws of rooms need, and the walk of the law of WithRange. -/
import Derived.Test.YtceeninhjlonbaaWc
namespace Go.Proofs.Ytceeninhjlonbaa
open Go.RowKit
open Geo (H3)

theorem room16n {V X : World} {B C : Nat} {a0 a1 a2 a3 a4 a5 a6 a7 b0 b1 b2 b3 b4 b5 b6 b7 : Value} {T U : TypeId} (h : Blk V B #[a0, a1, a2, a3, a4, a5, a6, a7] T) (k : Blk V C #[b0, b1, b2, b3, b4, b5, b6, b7] U) (hb : Below V.heap.size V X) :
    X.cell? ⟨B, 0, none⟩ = some a0 ∧ X.cell? ⟨B, 1, none⟩ = some a1 ∧ X.cell? ⟨B, 2, none⟩ = some a2 ∧ X.cell? ⟨B, 3, none⟩ = some a3 ∧ X.cell? ⟨B, 4, none⟩ = some a4 ∧ X.cell? ⟨B, 5, none⟩ = some a5 ∧ X.cell? ⟨B, 6, none⟩ = some a6 ∧ X.cell? ⟨B, 7, none⟩ = some a7 ∧ X.cell? ⟨C, 0, none⟩ = some b0 ∧ X.cell? ⟨C, 1, none⟩ = some b1 ∧ X.cell? ⟨C, 2, none⟩ = some b2 ∧ X.cell? ⟨C, 3, none⟩ = some b3 ∧ X.cell? ⟨C, 4, none⟩ = some b4 ∧ X.cell? ⟨C, 5, none⟩ = some b5 ∧ X.cell? ⟨C, 6, none⟩ = some b6 ∧ X.cell? ⟨C, 7, none⟩ = some b7 :=
  ⟨(h.to hb).c8_0, (h.to hb).c8_1, (h.to hb).c8_2, (h.to hb).c8_3, (h.to hb).c8_4, (h.to hb).c8_5, (h.to hb).c8_6, (h.to hb).c8_7, (k.to hb).c8_0, (k.to hb).c8_1, (k.to hb).c8_2, (k.to hb).c8_3, (k.to hb).c8_4, (k.to hb).c8_5, (k.to hb).c8_6, (k.to hb).c8_7⟩
theorem ROwn.rows_lt {w : World} {B nm cm nn cn nl cl : Nat} {am an al : Option Addr} {zs : List Int} {ps qs : List H3} (h : ROwn w B am nm cm zs an nn cn ps al nl cl qs) : ∀ p, ((Value.slice am nm cm).ownBlock = some p ∨ (Value.slice an nn cn).ownBlock = some p ∨ (Value.slice al nl cl).ownBlock = some p) → B ≤ p ∧ p < w.heap.size := by
  rintro p (k | k | k)
  · exact own_block_lt h.om k
  · exact own_block_lt h.on k
  · exact own_block_lt h.ol k
theorem Gr3.size {w w' : World} {r1 r2 r3 : Option Nat} (h : Gr3 w w' r1 r2 r3) : w.heap.size ≤ w'.heap.size := by
  obtain ⟨w1, w2, g1, g2, g3⟩ := h
  exact Nat.le_trans g1.size (Nat.le_trans g2.size g3.size)
/-- a room and a bool are handed back -/
def AnsU (w : World) (b : Bool) (zs : List Int) (q bx cy lo hi : Int) (ps qs : List H3) (e : Ending) (w' : World) : Prop :=
  ∃ am cm an cn al cl, e = .returned (.tuple #[.agg #[.slice am zs.length cm, .int .i64 q, .int .i64 bx, .int .i64 cy, .int .i64 lo, .int .i64 hi, .slice an ps.length cn, .slice al qs.length cl], .bool b]) ∧ ROwn w' w.heap.size am zs.length cm zs an ps.length cn ps al qs.length cl qs ∧ Below w.heap.size w w'
theorem AnsM.uni {w w' : World} {b : Bool} {zs : List Int} {q bx cy lo hi : Int} {ps qs : List H3} {e : Ending} (h : AnsM w b zs q bx cy lo hi ps qs e w') :
    AnsU w b (if b then zs else []) (if b then q else 0) (if b then bx else 0) (if b then cy else 0) (if b then lo else 0) (if b then hi else 0) (if b then ps else []) (if b then qs else []) e w' := by
  rcases h with ⟨rfl, rfl, hb⟩ | ⟨rfl, am, cm, an, cn, al, cl, rfl, ho, hb⟩
  · exact ⟨none, 0, none, 0, none, 0, rfl, ⟨own1_none, own3_none, own3_none, fun p hp => by simp [Value.ownBlock] at hp, fun p hp => by simp [Value.ownBlock] at hp, fun p hp => by simp [Value.ownBlock] at hp⟩, hb⟩
  · exact ⟨am, cm, an, cn, al, cl, rfl, ho, hb⟩
theorem ROwn.grow1 {w w' : World} {B nm cm nn cn nl cl : Nat} {am an al : Option Addr} {zs : List Int} {ps qs : List H3} {row : Option Nat} (h : ROwn w B am nm cm zs an nn cn ps al nl cl qs) (g : w.grownBy w' row) (k : ∀ p, ((Value.slice am nm cm).ownBlock = some p ∨ (Value.slice an nn cn).ownBlock = some p ∨ (Value.slice al nl cl).ownBlock = some p) → some p ≠ row) : ROwn w' B am nm cm zs an nn cn ps al nl cl qs :=
  h.grow g (fun p hp => k p (.inl hp)) (fun p hp => k p (.inr (.inl hp))) (fun p hp => k p (.inr (.inr hp)))
theorem Gr3.rown {w w' : World} {r1 r2 r3 : Option Nat} {B nm cm nn cn nl cl : Nat} {am an al : Option Addr} {zs : List Int} {ps qs : List H3} (g : Gr3 w w' r1 r2 r3) (h : ROwn w B am nm cm zs an nn cn ps al nl cl qs) (k : ∀ p, ((Value.slice am nm cm).ownBlock = some p ∨ (Value.slice an nn cn).ownBlock = some p ∨ (Value.slice al nl cl).ownBlock = some p) → some p ≠ r1 ∧ some p ≠ r2 ∧ some p ≠ r3) : ROwn w' B am nm cm zs an nn cn ps al nl cl qs := by
  obtain ⟨w1, w2, g1, g2, g3⟩ := g
  exact ((h.grow1 g1 (fun p hp => (k p hp).1)).grow1 g2 (fun p hp => (k p hp).2.1)).grow1 g3 (fun p hp => (k p hp).2.2)
/-- a room lies in a box that is new since W, its rows too -/
def BoxM (W : World) (zs : List Int) (q bx cy lo hi : Int) (ps qs : List H3) (mz mp mq : Nat) (v : Value) (wx : World) : Prop :=
  ∃ g am cm an cn al cl, v = .pointer (some ⟨g, 0, none⟩) ∧ W.heap.size ≤ g ∧ Blk wx g #[.slice am mz cm, .int .i64 q, .int .i64 bx, .int .i64 cy, .int .i64 lo, .int .i64 hi, .slice an mp cn, .slice al mq cl] 39 ∧ ROwn wx W.heap.size am mz cm zs an mp cn ps al mq cl qs ∧ Below W.heap.size W wx
theorem BoxM.last {W wC : World} {zs : List Int} {q bx cy lo hi : Int} {ps qs : List H3} {B mz mp mq : Nat} {am an al : Option Addr} {cm cn cl : Nat} (ho : ROwn wC B am mz cm zs an mp cn ps al mq cl qs) (hB : W.heap.size ≤ B) (hb : Below W.heap.size W wC) :
    BoxM W zs q bx cy lo hi ps qs mz mp mq (.pointer (some ⟨wC.heap.size, 0, none⟩)) (wC.alloc (.cells #[.slice am mz cm, .int .i64 q, .int .i64 bx, .int .i64 cy, .int .i64 lo, .int .i64 hi, .slice an mp cn, .slice al mq cl] 39)) :=
  ⟨wC.heap.size, am, cm, an, cn, al, cl, rfl, hb.size, blk_new wC _ _ rfl, (ho.mono hB).below (below_one wC _), below_bx2 hb _⟩
theorem BoxM.early {W U wC : World} {zs : List Int} {q bx cy lo hi : Int} {ps qs : List H3} {B mz mp mq : Nat} {am an al : Option Addr} {cm cn cl : Nat} {x0 x1 x2 x3 x4 x5 x6 x7 : Value} (hU : Below (U.alloc (.cells #[x0, x1, x2, x3, x4, x5, x6, x7] 39)).heap.size (U.alloc (.cells #[x0, x1, x2, x3, x4, x5, x6, x7] 39)) wC) (hW : W.heap.size ≤ U.heap.size) (ho : ROwn wC B am mz cm zs an mp cn ps al mq cl qs) (hB : U.heap.size < B) (hb : Below W.heap.size W wC) :
    BoxM W zs q bx cy lo hi ps qs mz mp mq (.pointer (some ⟨U.heap.size, 0, none⟩)) (put8 wC U.heap.size (.slice am mz cm) (.int .i64 q) (.int .i64 bx) (.int .i64 cy) (.int .i64 lo) (.int .i64 hi) (.slice an mp cn) (.slice al mq cl)) := by
  have k : Blk wC U.heap.size #[x0, x1, x2, x3, x4, x5, x6, x7] 39 := (blk_new U #[x0, x1, x2, x3, x4, x5, x6, x7] 39 rfl).to hU
  obtain ⟨r1, r2, r3⟩ := rows_lt' ho
  exact ⟨U.heap.size, am, cm, an, cn, al, cl, rfl, hW, put8_blk k _ _ _ _ _ _ _ _, ⟨own_base (put8_own' ho.om (fun p hp => by have := (r1 p hp).1; omega) _ _ _ _ _ _ _ _) (by omega), own_base (put8_own' ho.on (fun p hp => by have := (r2 p hp).1; omega) _ _ _ _ _ _ _ _) (by omega), own_base (put8_own' ho.ol (fun p hp => by have := (r3 p hp).1; omega) _ _ _ _ _ _ _ _) (by omega), ho.d1, ho.d2, ho.d3⟩, put8_below hb hW _ _ _ _ _ _ _ _⟩
theorem undrew {w X : World} (h : Below w.drew.heap.size w.drew X) : Below w.heap.size w X := below_to (below_drw (Below.refl _ _)) h
theorem early8 {U X : World} (h : Below (U.alloc (.cells #[.slice none 0 0, .int .i64 0, .int .i64 0, .int .i64 0, .int .i64 0, .int .i64 0, .slice none 0 0, .slice none 0 0] 39)).heap.size (U.alloc (.cells #[.slice none 0 0, .int .i64 0, .int .i64 0, .int .i64 0, .int .i64 0, .int .i64 0, .slice none 0 0, .slice none 0 0] 39)) X) : Blk X U.heap.size #[.slice none 0 0, .int .i64 0, .int .i64 0, .int .i64 0, .int .i64 0, .int .i64 0, .slice none 0 0, .slice none 0 0] 39 := (blk_new U _ _ rfl).to h
theorem early8d {U X : World} (h : Below (U.alloc (.cells #[.slice none 0 0, .int .i64 0, .int .i64 0, .int .i64 0, .int .i64 0, .int .i64 0, .slice none 0 0, .slice none 0 0] 39)).drew.heap.size (U.alloc (.cells #[.slice none 0 0, .int .i64 0, .int .i64 0, .int .i64 0, .int .i64 0, .int .i64 0, .slice none 0 0, .slice none 0 0] 39)).drew X) : Blk X U.heap.size #[.slice none 0 0, .int .i64 0, .int .i64 0, .int .i64 0, .int .i64 0, .int .i64 0, .slice none 0 0, .slice none 0 0] 39 := early8 (undrew h)
theorem BoxM.early2 {W wC : World} {g : Nat} {zs : List Int} {q bx cy lo hi : Int} {ps qs : List H3} {B mz mp mq : Nat} {am an al : Option Addr} {cm cn cl : Nat} {x0 x1 x2 x3 x4 x5 x6 x7 : Value} (k : Blk wC g #[x0, x1, x2, x3, x4, x5, x6, x7] 39) (hW : W.heap.size ≤ g) (ho : ROwn wC B am mz cm zs an mp cn ps al mq cl qs) (hB : g < B) (hb : Below W.heap.size W wC) :
    BoxM W zs q bx cy lo hi ps qs mz mp mq (.pointer (some ⟨g, 0, none⟩)) (put8 wC g (.slice am mz cm) (.int .i64 q) (.int .i64 bx) (.int .i64 cy) (.int .i64 lo) (.int .i64 hi) (.slice an mp cn) (.slice al mq cl)) := by
  obtain ⟨r1, r2, r3⟩ := rows_lt' ho
  exact ⟨g, am, cm, an, cn, al, cl, rfl, hW, put8_blk k _ _ _ _ _ _ _ _, ⟨own_base (put8_own' ho.om (fun p hp => by have := (r1 p hp).1; omega) _ _ _ _ _ _ _ _) (by omega), own_base (put8_own' ho.on (fun p hp => by have := (r2 p hp).1; omega) _ _ _ _ _ _ _ _) (by omega), own_base (put8_own' ho.ol (fun p hp => by have := (r3 p hp).1; omega) _ _ _ _ _ _ _ _) (by omega), ho.d1, ho.d2, ho.d3⟩, put8_below hb hW _ _ _ _ _ _ _ _⟩
set_option maxRecDepth 100000 in
set_option maxHeartbeats 12800000 in
theorem law_wra (am : Option Addr) (nm cm : Nat) (zs : List Int) (q bx cy lo hi : Int) (an : Option Addr) (nn cn : Nat) (ps : List H3) (al : Option Addr) (nl cl : Nat) (qs : List H3) (lo2 hi2 : Int) (wl2 : (Lit.int .i64 lo2).wf = true) (wh2 : (Lit.int .i64 hi2).wf = true) (w : World) (h64 : R64 q bx cy lo hi ps qs) (h1 : nm ≤ maxLen) (h2 : nn ≤ maxLen) (h3 : nl ≤ maxLen) (hA : RAt w am nm zs an nn ps al nl qs) :
    Calls Try.prog 4 #[.agg #[.slice am nm cm, .int .i64 q, .int .i64 bx, .int .i64 cy, .int .i64 lo, .int .i64 hi, .slice an nn cn, .slice al nl cl], .int .i64 lo2, .int .i64 hi2] w fun e w' => e = .returned (.bool true) ∧ Below w.heap.size w w' := by
  have bV := below_one w (.cells #[.slice am nm cm, .int .i64 q, .int .i64 bx, .int .i64 cy, .int .i64 lo, .int .i64 hi, .slice an nn cn, .slice al nl cl] 27)
  have K0 := blk_new w #[.slice am nm cm, .int .i64 q, .int .i64 bx, .int .i64 cy, .int .i64 lo, .int .i64 hi, .slice an nn cn, .slice al nl cl] 27 (b := w.heap.size) (by simp)
  by_cases hle : (nm : Int) + nn + nl ≤ 1048576
  · have HZ := Lib.hid (fun V => sz_room am nm cm q bx cy lo hi an nn cn al nl cl V h1 h2 h3 1048576 (by omega) (by omega) (1048576 - nm - nn - nl) (by rw [if_pos hle]))
    have HT := Lib.hid (fun V (h : Below w.heap.size w V) => to_room am nm cm zs q bx cy lo hi an nn cn ps al nl cl qs V (hA.below h) (by omega))
    have HE := Lib.hid (fun V am1 cm1 an1 cn1 al1 cl1 am2 cm2 an2 cn2 al2 cl2 (k1 : RAt V am1 nm zs an1 nn ps al1 nl qs) (k2 : RAt V am2 nm zs an2 nn ps al2 nl qs) => eq_room am1 nm cm1 zs q bx cy lo hi an1 nn cn1 ps al1 nl cl1 qs am2 cm2 an2 cn2 al2 cl2 V k1 k2 (by omega))
    have HS := Lib.hid (fun V am1 cm1 an1 cn1 al1 cl1 (k0 : RNil am1 nm cm1 an1 nn cn1 al1 nl cl1) (k1 : RAt V am1 nm zs an1 nn ps al1 nl qs) => (spec_wra am1 nm cm1 zs q bx cy lo hi an1 nn cn1 ps al1 nl cl1 qs V lo2 hi2 k1 h64 (by omega) k0 (bounds_i64 wl2) (bounds_i64 wh2)).mono fun e w' k => k.uni)
    have HI := Lib.hid (fun V am1 cm1 an1 cn1 al1 cl1 (k1 : RAt V am1 nm zs an1 nn ps al1 nl qs) => (impl_wra am1 nm cm1 zs q bx cy lo hi an1 nn cn1 ps al1 nl cl1 qs V lo2 hi2 k1 h64 (bounds_i64 wl2) (bounds_i64 wh2) (by omega)).mono fun e w' k => k.uni)
    have hL : (if (rmB zs q bx cy lo hi ps qs && rmB zs q bx cy lo2 hi2 ps qs) = true then zs else []).length + (if (rmB zs q bx cy lo hi ps qs && rmB zs q bx cy lo2 hi2 ps qs) = true then ps else []).length + (if (rmB zs q bx cy lo hi ps qs && rmB zs q bx cy lo2 hi2 ps qs) = true then qs else []).length ≤ 1048576 := by
      split
      · rw [hA.lm, hA.ln, hA.ll]; omega
      · simp
    unfold AnsU at HS HI
    generalize (if (rmB zs q bx cy lo hi ps qs && rmB zs q bx cy lo2 hi2 ps qs) = true then zs else []) = Z at *
    generalize (if (rmB zs q bx cy lo hi ps qs && rmB zs q bx cy lo2 hi2 ps qs) = true then q else 0) = Q at *
    generalize (if (rmB zs q bx cy lo hi ps qs && rmB zs q bx cy lo2 hi2 ps qs) = true then bx else 0) = BX at *
    generalize (if (rmB zs q bx cy lo hi ps qs && rmB zs q bx cy lo2 hi2 ps qs) = true then cy else 0) = CY at *
    generalize (if (rmB zs q bx cy lo hi ps qs && rmB zs q bx cy lo2 hi2 ps qs) = true then lo2 else 0) = LO at *
    generalize (if (rmB zs q bx cy lo hi ps qs && rmB zs q bx cy lo2 hi2 ps qs) = true then hi2 else 0) = HI' at *
    generalize (if (rmB zs q bx cy lo hi ps qs && rmB zs q bx cy lo2 hi2 ps qs) = true then ps else []) = PS at *
    generalize (if (rmB zs q bx cy lo hi ps qs && rmB zs q bx cy lo2 hi2 ps qs) = true then qs else []) = QS at *
    generalize (rmB zs q bx cy lo hi ps qs && rmB zs q bx cy lo2 hi2 ps qs) = R at *
    have HEA := Lib.hid (fun V am1 cm1 an1 cn1 al1 cl1 am2 cm2 an2 cn2 al2 cl2 (k1 : RAt V am1 Z.length Z an1 PS.length PS al1 QS.length QS) (k2 : RAt V am2 Z.length Z an2 PS.length PS al2 QS.length QS) => eq_room am1 Z.length cm1 Z Q BX CY LO HI' an1 PS.length cn1 PS al1 QS.length cl1 QS am2 cm2 an2 cn2 al2 cl2 V k1 k2 hL)
    generalize Z.length = mz at *
    generalize PS.length = mp at *
    generalize QS.length = mq at *
    have hz1 : ¬ (1048576 - (nm : Int) - nn - nl < 0) := by omega
    clear hA h64 h1 h2 h3 wl2 wh2
    go_enter Try.func4, Try.ntmps4
    have c0_0 := K0.c8_0
    have c0_1 := K0.c8_1
    have c0_2 := K0.c8_2
    have c0_3 := K0.c8_3
    have c0_4 := K0.c8_4
    have c0_5 := K0.c8_5
    have c0_6 := K0.c8_6
    have c0_7 := K0.c8_7
    go_wp2_with fail
    clear c0_0 c0_1 c0_2 c0_3 c0_4 c0_5 c0_6 c0_7
    generalize (w.alloc (.cells #[.slice am nm cm, .int .i64 q, .int .i64 bx, .int .i64 cy, .int .i64 lo, .int .i64 hi, .slice an nn cn, .slice al nl cl] 27)) = V at *
    refine (HZ.out _).mono ?_
    rintro e w1 ⟨rfl, bl1⟩
    have P0_1 := K0.to bl1
    have b_2 := below_to bV bl1
    clear K0 bV
    clear bl1 HZ
    have c0 := P0_1.c8_0
    have c1 := P0_1.c8_1
    have c2 := P0_1.c8_2
    have c3 := P0_1.c8_3
    have c4 := P0_1.c8_4
    have c5 := P0_1.c8_5
    have c6 := P0_1.c8_6
    have c7 := P0_1.c8_7
    go_wp2_with fail
    clear c0 c1 c2 c3 c4 c5 c6 c7
    refine (HT.out _ b_2).mono ?_
    rintro e wRw ⟨am9w, cm9w, an9w, cn9w, al9w, cl9w, rfl, ho9w, bl9w⟩
    have P0_3 := P0_1.to bl9w
    have b_4 := below_to b_2 bl9w
    clear P0_1 b_2
    have O9 := Lib.hid ho9w
    clear ho9w bl9w
    go_wp2_with fail
    refine (HS.out _ _ _ _ _ _ _ O9.out.nil O9.out.at).mono ?_
    rintro e wC ⟨amw, cmw, anw, cnw, alw, clw, rfl, how, blw⟩
    clear O9
    have bQ := below_to blw (below_one wC (.cells #[.slice amw mz cmw, .int .i64 Q, .int .i64 BX, .int .i64 CY, .int .i64 LO, .int .i64 HI', .slice anw mp cnw, .slice alw mq clw] 39))
    have xw := Lib.hid how.rows_lt
    have zw := blw.size
    have Kw := blk_new wC #[.slice amw mz cmw, .int .i64 Q, .int .i64 BX, .int .i64 CY, .int .i64 LO, .int .i64 HI', .slice anw mp cnw, .slice alw mq clw] 39 rfl
    have Ow := Lib.hid (how.below (below_one wC (.cells #[.slice amw mz cmw, .int .i64 Q, .int .i64 BX, .int .i64 CY, .int .i64 LO, .int .i64 HI', .slice anw mp cnw, .slice alw mq clw] 39)))
    have yw : (wC.alloc (.cells #[.slice amw mz cmw, .int .i64 Q, .int .i64 BX, .int .i64 CY, .int .i64 LO, .int .i64 HI', .slice anw mp cnw, .slice alw mq clw] 39)).heap.size = wC.heap.size + 1 := by simp
    have P0_5 := P0_3.to bQ
    have b_6 := below_to b_4 bQ
    clear P0_3 b_4
    clear bQ blw how
    have c0 := P0_5.c8_0
    have c1 := P0_5.c8_1
    have c2 := P0_5.c8_2
    have c3 := P0_5.c8_3
    have c4 := P0_5.c8_4
    have c5 := P0_5.c8_5
    have c6 := P0_5.c8_6
    have c7 := P0_5.c8_7
    go_wp2_with fail
    clear c0 c1 c2 c3 c4 c5 c6 c7
    generalize wC.alloc (.cells #[.slice amw mz cmw, .int .i64 Q, .int .i64 BX, .int .i64 CY, .int .i64 LO, .int .i64 HI', .slice anw mp cnw, .slice alw mq clw] 39) = W0 at *
    obtain ⟨ew, hew⟩ : ∃ b, wC.heap.size = b := ⟨_, rfl⟩
    rw [hew] at Kw yw zw xw ⊢
    clear hew
    have y0 := P0_5.lt
    refine (HT.out _ b_6).mono ?_
    rintro e w4 ⟨am4, cm4, an4, cn4, al4, cl4, rfl, ho4, bl4⟩
    have bX := below_to bl4 (below_one w4 (.cells #[.slice am4 nm cm4, .int .i64 q, .int .i64 bx, .int .i64 cy, .int .i64 lo, .int .i64 hi, .slice an4 nn cn4, .slice al4 nl cl4] 39))
    have xr := Lib.hid ho4.rows_lt
    have z4 := bl4.size
    have KX := blk_new w4 #[.slice am4 nm cm4, .int .i64 q, .int .i64 bx, .int .i64 cy, .int .i64 lo, .int .i64 hi, .slice an4 nn cn4, .slice al4 nl cl4] 39 rfl
    have OX := Lib.hid (ho4.below (below_one w4 (.cells #[.slice am4 nm cm4, .int .i64 q, .int .i64 bx, .int .i64 cy, .int .i64 lo, .int .i64 hi, .slice an4 nn cn4, .slice al4 nl cl4] 39)))
    have y4 : (w4.alloc (.cells #[.slice am4 nm cm4, .int .i64 q, .int .i64 bx, .int .i64 cy, .int .i64 lo, .int .i64 hi, .slice an4 nn cn4, .slice al4 nl cl4] 39)).heap.size = w4.heap.size + 1 := by simp
    have P0_7 := P0_5.to bX
    have b_8 := below_to b_6 bX
    have Kw_9 := Kw.to bX
    have Ow_10 := Lib.hid (Ow.out.below bX)
    clear P0_5 b_6 Kw Ow
    clear bX bl4 ho4
    have c0 := KX.c8_0
    have c1 := KX.c8_1
    have c2 := KX.c8_2
    have c3 := KX.c8_3
    have c4 := KX.c8_4
    have c5 := KX.c8_5
    have c6 := KX.c8_6
    have c7 := KX.c8_7
    go_wp2_with fail
    clear c0 c1 c2 c3 c4 c5 c6 c7
    generalize w4.alloc (.cells #[.slice am4 nm cm4, .int .i64 q, .int .i64 bx, .int .i64 cy, .int .i64 lo, .int .i64 hi, .slice an4 nn cn4, .slice al4 nl cl4] 39) = X at *
    obtain ⟨ex, hex⟩ : ∃ b, w4.heap.size = b := ⟨_, rfl⟩
    rw [hex] at KX y4 z4 xr ⊢
    clear hex
    refine (HI.out _ _ _ _ _ _ _ OX.out.at).mono ?_
    rintro e w6 ⟨amg, cmg, ang, cng, alg, clg, rfl, hog, bl6⟩
    have bG := below_to bl6 (below_one w6 (.cells #[.slice amg mz cmg, .int .i64 Q, .int .i64 BX, .int .i64 CY, .int .i64 LO, .int .i64 HI', .slice ang mp cng, .slice alg mq clg] 39))
    have xg := Lib.hid hog.rows_lt
    have zg := bl6.size
    have Kg := blk_new w6 #[.slice amg mz cmg, .int .i64 Q, .int .i64 BX, .int .i64 CY, .int .i64 LO, .int .i64 HI', .slice ang mp cng, .slice alg mq clg] 39 rfl
    have Og := Lib.hid (hog.below (below_one w6 (.cells #[.slice amg mz cmg, .int .i64 Q, .int .i64 BX, .int .i64 CY, .int .i64 LO, .int .i64 HI', .slice ang mp cng, .slice alg mq clg] 39)))
    have yg : (w6.alloc (.cells #[.slice amg mz cmg, .int .i64 Q, .int .i64 BX, .int .i64 CY, .int .i64 LO, .int .i64 HI', .slice ang mp cng, .slice alg mq clg] 39)).heap.size = w6.heap.size + 1 := by simp
    have P0_11 := P0_7.to bG
    have b_12 := below_to b_8 bG
    have Kw_13 := Kw_9.to bG
    have Ow_14 := Lib.hid (Ow_10.out.below bG)
    have KX_15 := KX.to bG
    have OX_16 := Lib.hid (OX.out.below bG)
    clear P0_7 b_8 Kw_9 Ow_10 KX OX
    clear bG bl6 hog
    have c0 := Kg.c8_0
    have c1 := Kg.c8_1
    have c2 := Kg.c8_2
    have c3 := Kg.c8_3
    have c4 := Kg.c8_4
    have c5 := Kg.c8_5
    have c6 := Kg.c8_6
    have c7 := Kg.c8_7
    have d0 := Kw_13.c8_0
    have d1 := Kw_13.c8_1
    have d2 := Kw_13.c8_2
    have d3 := Kw_13.c8_3
    have d4 := Kw_13.c8_4
    have d5 := Kw_13.c8_5
    have d6 := Kw_13.c8_6
    have d7 := Kw_13.c8_7
    go_wp2_with fail
    clear c0 c1 c2 c3 c4 c5 c6 c7 d0 d1 d2 d3 d4 d5 d6 d7
    generalize w6.alloc (.cells #[.slice amg mz cmg, .int .i64 Q, .int .i64 BX, .int .i64 CY, .int .i64 LO, .int .i64 HI', .slice ang mp cng, .slice alg mq clg] 39) = G at *
    obtain ⟨eg, heg⟩ : ∃ b, w6.heap.size = b := ⟨_, rfl⟩
    rw [heg] at Kg yg zg xg ⊢
    clear heg
    refine (HEA.out _ _ _ _ _ _ _ _ _ _ _ _ _ Og.out.at Ow_14.out.at).mono ?_
    rintro e w7 ⟨rfl, bl7⟩
    have z7 := bl7.size
    have P0_17 := P0_11.to bl7
    have b_18 := below_to b_12 bl7
    have Kw_19 := Kw_13.to bl7
    have Ow_20 := Lib.hid (Ow_14.out.below bl7)
    have KX_21 := KX_15.to bl7
    have OX_22 := Lib.hid (OX_16.out.below bl7)
    have Kg_23 := Kg.to bl7
    have Og_24 := Lib.hid (Og.out.below bl7)
    clear P0_11 b_12 Kw_13 Ow_14 KX_15 OX_16 Kg Og
    clear bl7
    go_wp2
    go_region_held3 (fun w' => w'.cell? ⟨ex, 0, none⟩ = some (.slice am4 nm cm4) ∧ w'.cell? ⟨ex, 1, none⟩ = some (.int .i64 q) ∧ w'.cell? ⟨ex, 2, none⟩ = some (.int .i64 bx) ∧ w'.cell? ⟨ex, 3, none⟩ = some (.int .i64 cy) ∧ w'.cell? ⟨ex, 4, none⟩ = some (.int .i64 lo) ∧ w'.cell? ⟨ex, 5, none⟩ = some (.int .i64 hi) ∧ w'.cell? ⟨ex, 6, none⟩ = some (.slice an4 nn cn4) ∧ w'.cell? ⟨ex, 7, none⟩ = some (.slice al4 nl cl4) ∧ w'.cell? ⟨w.heap.size, 0, none⟩ = some (.slice am nm cm) ∧ w'.cell? ⟨w.heap.size, 1, none⟩ = some (.int .i64 q) ∧ w'.cell? ⟨w.heap.size, 2, none⟩ = some (.int .i64 bx) ∧ w'.cell? ⟨w.heap.size, 3, none⟩ = some (.int .i64 cy) ∧ w'.cell? ⟨w.heap.size, 4, none⟩ = some (.int .i64 lo) ∧ w'.cell? ⟨w.heap.size, 5, none⟩ = some (.int .i64 hi) ∧ w'.cell? ⟨w.heap.size, 6, none⟩ = some (.slice an nn cn) ∧ w'.cell? ⟨w.heap.size, 7, none⟩ = some (.slice al nl cl))
      ((refine room16n KX_21 P0_17 ?_; repeat (first | exact Below.refl _ _ | refine below_drw ?_ | refine below_to ?_ (by assumption))))
      (first | (go_at_call 14; (with_reducible refine (HT.out _ ?_).mono ?_); (focus (repeat (first | exact b_18 | refine below_drw ?_ | refine below_to ?_ (by assumption)))); rintro e w8 ⟨am7, cm7, an7, cn7, al7, cl7, rfl, ho8, bl8⟩) | (go_at_call 19; (with_reducible refine (HE.out _ _ _ _ _ _ _ _ _ _ _ _ _ ?_ ?_).mono ?_); (focus ((refine OX_22.out.at.below ?_); repeat (first | exact Below.refl _ _ | refine below_drw ?_ | refine below_to ?_ (by assumption)))); (focus (exact ho8.at)); rintro e w9 ⟨rfl, bl9⟩))
    have blj : Below w7.heap.size w7 w9 := below_to (below_to (below_drw (Below.refl _ _)) bl8) bl9
    have z9 := blj.size
    have P0_25 := P0_17.to blj
    have b_26 := below_to b_18 blj
    have Kw_27 := Kw_19.to blj
    have Ow_28 := Lib.hid (Ow_20.out.below blj)
    have KX_29 := KX_21.to blj
    have OX_30 := Lib.hid (OX_22.out.below blj)
    have Kg_31 := Kg_23.to blj
    have Og_32 := Lib.hid (Og_24.out.below blj)
    clear P0_17 b_18 Kw_19 Ow_20 KX_21 OX_22 Kg_23 Og_24
    clear bl8 bl9 blj ho8
    have c0 := KX_29.c8_0
    have c1 := KX_29.c8_1
    have c2 := KX_29.c8_2
    have c3 := KX_29.c8_3
    have c4 := KX_29.c8_4
    have c5 := KX_29.c8_5
    have c6 := KX_29.c8_6
    have c7 := KX_29.c8_7
    go_wp2_with fail
    clear c0 c1 c2 c3 c4 c5 c6 c7
    refine (mark_room4 am4 nm cm4 zs q bx cy lo hi an4 nn cn4 ps al4 nl cl4 qs _ 1 w9 (by omega) (by omega) (by omega) OX_30.out).mono ?_
    rintro e w12 ⟨rfl, _, g12⟩
    have b12 : Below w.heap.size w w12 := b_26.trans (Gr3.below g12 (by omega) (fun p h => by have := xr.out p (.inl h); omega) (fun p h => by have := xr.out p (.inr (.inl h)); omega) (fun p h => by have := xr.out p (.inr (.inr h)); omega))
    have z12 := g12.size
    have P0_33 := Gr3.blk g12 P0_25 (fun h => by have := xr.out _ (.inl h.symm); have := P0_25.lt; omega) (fun h => by have := xr.out _ (.inr (.inl h.symm)); have := P0_25.lt; omega) (fun h => by have := xr.out _ (.inr (.inr h.symm)); have := P0_25.lt; omega)
    have Kw_34 := Gr3.blk g12 Kw_27 (fun h => by have := xr.out _ (.inl h.symm); have := Kw_27.lt; omega) (fun h => by have := xr.out _ (.inr (.inl h.symm)); have := Kw_27.lt; omega) (fun h => by have := xr.out _ (.inr (.inr h.symm)); have := Kw_27.lt; omega)
    have Ow_35 := Lib.hid (Gr3.rown g12 Ow_28.out (fun p hp => ⟨fun e => by have := xw.out p hp; have := xr.out p (.inl e.symm); omega, fun e => by have := xw.out p hp; have := xr.out p (.inr (.inl e.symm)); omega, fun e => by have := xw.out p hp; have := xr.out p (.inr (.inr e.symm)); omega⟩))
    have Kg_36 := Gr3.blk g12 Kg_31 (fun h => by have := xr.out _ (.inl h.symm); have := Kg_31.lt; omega) (fun h => by have := xr.out _ (.inr (.inl h.symm)); have := Kg_31.lt; omega) (fun h => by have := xr.out _ (.inr (.inr h.symm)); have := Kg_31.lt; omega)
    have Og_37 := Lib.hid (Gr3.rown g12 Og_32.out (fun p hp => ⟨fun e => by have := xg.out p hp; have := xr.out p (.inl e.symm); omega, fun e => by have := xg.out p hp; have := xr.out p (.inr (.inl e.symm)); omega, fun e => by have := xg.out p hp; have := xr.out p (.inr (.inr e.symm)); omega⟩))
    clear P0_25 b_26 Kw_27 Ow_28 KX_29 OX_30 Kg_31 Og_32
    clear g12
    have hk1 : ¬ (3 * (nl : Int) + (3 * (nn : Int) + ((nm : Int) + 1)) < 0) := by omega
    have c0 := Kg_36.c8_0
    have c1 := Kg_36.c8_1
    have c2 := Kg_36.c8_2
    have c3 := Kg_36.c8_3
    have c4 := Kg_36.c8_4
    have c5 := Kg_36.c8_5
    have c6 := Kg_36.c8_6
    have c7 := Kg_36.c8_7
    have d0 := Kw_34.c8_0
    have d1 := Kw_34.c8_1
    have d2 := Kw_34.c8_2
    have d3 := Kw_34.c8_3
    have d4 := Kw_34.c8_4
    have d5 := Kw_34.c8_5
    have d6 := Kw_34.c8_6
    have d7 := Kw_34.c8_7
    go_wp2_with fail
    clear c0 c1 c2 c3 c4 c5 c6 c7 d0 d1 d2 d3 d4 d5 d6 d7
    clear hk1
    refine (HEA.out _ _ _ _ _ _ _ _ _ _ _ _ _ Og_37.out.at Ow_35.out.at).mono ?_
    rintro e w14 ⟨rfl, bl14⟩
    have z14 := bl14.size
    have P0_38 := P0_33.to bl14
    have Kw_39 := Kw_34.to bl14
    have Ow_40 := Lib.hid (Ow_35.out.below bl14)
    have Kg_41 := Kg_36.to bl14
    have Og_42 := Lib.hid (Og_37.out.below bl14)
    have b_43 := below_to b12 bl14
    clear P0_33 Kw_34 Ow_35 Kg_36 Og_37 b12
    clear bl14
    have c0 := Kg_41.c8_0
    have c1 := Kg_41.c8_1
    have c2 := Kg_41.c8_2
    have c3 := Kg_41.c8_3
    have c4 := Kg_41.c8_4
    have c5 := Kg_41.c8_5
    have c6 := Kg_41.c8_6
    have c7 := Kg_41.c8_7
    go_wp2_with fail
    clear c0 c1 c2 c3 c4 c5 c6 c7
    refine (mark_room4 amg mz cmg Z Q BX CY LO HI' ang mp cng PS alg mq clg QS _ 1 w14 (by omega) (by omega) (by omega) Og_42.out).mono ?_
    rintro e w15 ⟨rfl, hoE, g15⟩
    have b15 : Below w.heap.size w w15 := b_43.trans (Gr3.below g15 (by omega) (fun p h => by have := xg.out p (.inl h); omega) (fun p h => by have := xg.out p (.inr (.inl h)); omega) (fun p h => by have := xg.out p (.inr (.inr h)); omega))
    have z15 := g15.size
    have OE := Lib.hid hoE
    have P0_44 := Gr3.blk g15 P0_38 (fun h => by have := xg.out _ (.inl h.symm); have := P0_38.lt; omega) (fun h => by have := xg.out _ (.inr (.inl h.symm)); have := P0_38.lt; omega) (fun h => by have := xg.out _ (.inr (.inr h.symm)); have := P0_38.lt; omega)
    have Kw_45 := Gr3.blk g15 Kw_39 (fun h => by have := xg.out _ (.inl h.symm); have := Kw_39.lt; omega) (fun h => by have := xg.out _ (.inr (.inl h.symm)); have := Kw_39.lt; omega) (fun h => by have := xg.out _ (.inr (.inr h.symm)); have := Kw_39.lt; omega)
    have Ow_46 := Lib.hid (Gr3.rown g15 Ow_40.out (fun p hp => ⟨fun e => by have := xw.out p hp; have := xg.out p (.inl e.symm); omega, fun e => by have := xw.out p hp; have := xg.out p (.inr (.inl e.symm)); omega, fun e => by have := xw.out p hp; have := xg.out p (.inr (.inr e.symm)); omega⟩))
    have Kg_47 := Gr3.blk g15 Kg_41 (fun h => by have := xg.out _ (.inl h.symm); have := Kg_41.lt; omega) (fun h => by have := xg.out _ (.inr (.inl h.symm)); have := Kg_41.lt; omega) (fun h => by have := xg.out _ (.inr (.inr h.symm)); have := Kg_41.lt; omega)
    clear P0_38 Kw_39 Ow_40 Kg_41 Og_42 b_43
    clear g15 hoE
    have c0 := Kg_47.c8_0
    have c1 := Kg_47.c8_1
    have c2 := Kg_47.c8_2
    have c3 := Kg_47.c8_3
    have c4 := Kg_47.c8_4
    have c5 := Kg_47.c8_5
    have c6 := Kg_47.c8_6
    have c7 := Kg_47.c8_7
    go_wp2_with fail
    clear c0 c1 c2 c3 c4 c5 c6 c7
    refine (held_room4 amg mz cmg Q BX CY LO HI' ang mp cng alg mq clg 1 w15 (by omega) (by omega) (by omega) OE.out.at.hm OE.out.at.hn OE.out.at.hl).mono ?_
    rintro e w16 ⟨rfl, bl16⟩
    have z16 := bl16.size
    have P0_48 := P0_44.to bl16
    have Kw_49 := Kw_45.to bl16
    have Ow_50 := Lib.hid (Ow_46.out.below bl16)
    have Kg_51 := Kg_47.to bl16
    have b_52 := below_to b15 bl16
    have OE_53 := Lib.hid (OE.out.below bl16)
    clear P0_44 Kw_45 Ow_46 Kg_47 b15 OE
    clear bl16
    have hk2 : ¬ (3 * (mq : Int) + (3 * (mp : Int) + ((mz : Int) + 1)) < 0) := by omega
    have c0 := P0_48.c8_0
    have c1 := P0_48.c8_1
    have c2 := P0_48.c8_2
    have c3 := P0_48.c8_3
    have c4 := P0_48.c8_4
    have c5 := P0_48.c8_5
    have c6 := P0_48.c8_6
    have c7 := P0_48.c8_7
    go_wp2_with fail
    clear c0 c1 c2 c3 c4 c5 c6 c7
    refine (HT.out _ b_52).mono ?_
    rintro e wRh ⟨am9h, cm9h, an9h, cn9h, al9h, cl9h, rfl, ho9h, bl9h⟩
    have P0_54 := P0_48.to bl9h
    have Kw_55 := Kw_49.to bl9h
    have Ow_56 := Lib.hid (Ow_50.out.below bl9h)
    have Kg_57 := Kg_51.to bl9h
    have b_58 := below_to b_52 bl9h
    have OE_59 := Lib.hid (OE_53.out.below bl9h)
    clear P0_48 Kw_49 Ow_50 Kg_51 b_52 OE_53
    have O9 := Lib.hid ho9h
    clear ho9h bl9h
    go_wp2_with fail
    refine (HI.out _ _ _ _ _ _ _ O9.out.at).mono ?_
    rintro e wD ⟨amh, cmh, anh, cnh, alh, clh, rfl, hoh, blh⟩
    clear O9
    have bQ := below_to blh (below_one wD (.cells #[.slice amh mz cmh, .int .i64 Q, .int .i64 BX, .int .i64 CY, .int .i64 LO, .int .i64 HI', .slice anh mp cnh, .slice alh mq clh] 39))
    have xh := Lib.hid hoh.rows_lt
    have zh := blh.size
    have Kh := blk_new wD #[.slice amh mz cmh, .int .i64 Q, .int .i64 BX, .int .i64 CY, .int .i64 LO, .int .i64 HI', .slice anh mp cnh, .slice alh mq clh] 39 rfl
    have Oh := Lib.hid (hoh.below (below_one wD (.cells #[.slice amh mz cmh, .int .i64 Q, .int .i64 BX, .int .i64 CY, .int .i64 LO, .int .i64 HI', .slice anh mp cnh, .slice alh mq clh] 39)))
    have yh : (wD.alloc (.cells #[.slice amh mz cmh, .int .i64 Q, .int .i64 BX, .int .i64 CY, .int .i64 LO, .int .i64 HI', .slice anh mp cnh, .slice alh mq clh] 39)).heap.size = wD.heap.size + 1 := by simp
    have P0_60 := P0_54.to bQ
    have Kw_61 := Kw_55.to bQ
    have Ow_62 := Lib.hid (Ow_56.out.below bQ)
    have Kg_63 := Kg_57.to bQ
    have b_64 := below_to b_58 bQ
    have OE_65 := Lib.hid (OE_59.out.below bQ)
    clear P0_54 Kw_55 Ow_56 Kg_57 b_58 OE_59
    clear bQ blh hoh
    have c0 := Kh.c8_0
    have c1 := Kh.c8_1
    have c2 := Kh.c8_2
    have c3 := Kh.c8_3
    have c4 := Kh.c8_4
    have c5 := Kh.c8_5
    have c6 := Kh.c8_6
    have c7 := Kh.c8_7
    have d0 := Kw_61.c8_0
    have d1 := Kw_61.c8_1
    have d2 := Kw_61.c8_2
    have d3 := Kw_61.c8_3
    have d4 := Kw_61.c8_4
    have d5 := Kw_61.c8_5
    have d6 := Kw_61.c8_6
    have d7 := Kw_61.c8_7
    go_wp2_with fail
    clear c0 c1 c2 c3 c4 c5 c6 c7 d0 d1 d2 d3 d4 d5 d6 d7
    generalize wD.alloc (.cells #[.slice amh mz cmh, .int .i64 Q, .int .i64 BX, .int .i64 CY, .int .i64 LO, .int .i64 HI', .slice anh mp cnh, .slice alh mq clh] 39) = H0 at *
    obtain ⟨eh, heh⟩ : ∃ b, wD.heap.size = b := ⟨_, rfl⟩
    rw [heh] at Kh yh zh xh ⊢
    clear heh
    refine (HEA.out _ _ _ _ _ _ _ _ _ _ _ _ _ Oh.out.at Ow_62.out.at).mono ?_
    rintro e wy ⟨rfl, bly⟩
    have P0_66 := P0_60.to bly
    have Kw_67 := Kw_61.to bly
    have Ow_68 := Lib.hid (Ow_62.out.below bly)
    have Kg_69 := Kg_63.to bly
    have b_70 := below_to b_64 bly
    have OE_71 := Lib.hid (OE_65.out.below bly)
    have Kh_72 := Kh.to bly
    have Oh_73 := Lib.hid (Oh.out.below bly)
    clear P0_60 Kw_61 Ow_62 Kg_63 b_64 OE_65 Kh Oh
    clear bly
    have c0 := Kg_69.c8_0
    have c1 := Kg_69.c8_1
    have c2 := Kg_69.c8_2
    have c3 := Kg_69.c8_3
    have c4 := Kg_69.c8_4
    have c5 := Kg_69.c8_5
    have c6 := Kg_69.c8_6
    have c7 := Kg_69.c8_7
    go_wp2_with fail
    clear c0 c1 c2 c3 c4 c5 c6 c7
    refine (held_room4 amg mz cmg Q BX CY LO HI' ang mp cng alg mq clg 1 wy (by omega) (by omega) (by omega) OE_71.out.at.hm OE_71.out.at.hn OE_71.out.at.hl).mono ?_
    rintro e wt ⟨rfl, blt⟩
    have bt := below_to b_70 blt
    go_wp2
    go_ret
    exact ⟨rfl, bt⟩
  · have HZ := Lib.hid (fun V => sz_room am nm cm q bx cy lo hi an nn cn al nl cl V h1 h2 h3 1048576 (by omega) (by omega) (-1) (by rw [if_neg hle]))
    clear hA h64 h1 h2 h3 hle wl2 wh2
    go_enter Try.func4, Try.ntmps4
    have c0_0 := K0.c8_0
    have c0_1 := K0.c8_1
    have c0_2 := K0.c8_2
    have c0_3 := K0.c8_3
    have c0_4 := K0.c8_4
    have c0_5 := K0.c8_5
    have c0_6 := K0.c8_6
    have c0_7 := K0.c8_7
    go_wp2_with fail
    generalize (w.alloc (.cells #[.slice am nm cm, .int .i64 q, .int .i64 bx, .int .i64 cy, .int .i64 lo, .int .i64 hi, .slice an nn cn, .slice al nl cl] 27)) = V at *
    refine (HZ.out _).mono ?_
    rintro e w1 ⟨rfl, bl1⟩
    have b1 := below_to bV bl1
    go_wp2
    go_ret
    exact ⟨rfl, b1⟩
end Go.Proofs.Ytceeninhjlonbaa
