/- The walk of the law of AdmitAt. -/
import Derived.Test.YtibkmhmeoelpdaaGreatUm
import Derived.Test.YtibkmhmeoelpdaaGreatMw
import Derived.Test.YtibkmhmeoelpdaaGreatSn
namespace Go.Proofs.YtibkmhmeoelpdaaGreat
open Go.RowKit
open Geo (H3)

theorem room16n {V X : World} {B C : Nat} {a0 a1 a2 a3 a4 a5 a6 a7 b0 b1 b2 b3 b4 b5 b6 b7 : Value} {T U : TypeId} (h : Blk V B #[a0, a1, a2, a3, a4, a5, a6, a7] T) (k : Blk V C #[b0, b1, b2, b3, b4, b5, b6, b7] U) (hb : Below V.heap.size V X) :
    X.cell? ⟨B, 0, none⟩ = some a0 ∧ X.cell? ⟨B, 1, none⟩ = some a1 ∧ X.cell? ⟨B, 2, none⟩ = some a2 ∧ X.cell? ⟨B, 3, none⟩ = some a3 ∧ X.cell? ⟨B, 4, none⟩ = some a4 ∧ X.cell? ⟨B, 5, none⟩ = some a5 ∧ X.cell? ⟨B, 6, none⟩ = some a6 ∧ X.cell? ⟨B, 7, none⟩ = some a7 ∧ X.cell? ⟨C, 0, none⟩ = some b0 ∧ X.cell? ⟨C, 1, none⟩ = some b1 ∧ X.cell? ⟨C, 2, none⟩ = some b2 ∧ X.cell? ⟨C, 3, none⟩ = some b3 ∧ X.cell? ⟨C, 4, none⟩ = some b4 ∧ X.cell? ⟨C, 5, none⟩ = some b5 ∧ X.cell? ⟨C, 6, none⟩ = some b6 ∧ X.cell? ⟨C, 7, none⟩ = some b7 :=
  ⟨(h.to hb).c8_0, (h.to hb).c8_1, (h.to hb).c8_2, (h.to hb).c8_3, (h.to hb).c8_4, (h.to hb).c8_5, (h.to hb).c8_6, (h.to hb).c8_7, (k.to hb).c8_0, (k.to hb).c8_1, (k.to hb).c8_2, (k.to hb).c8_3, (k.to hb).c8_4, (k.to hb).c8_5, (k.to hb).c8_6, (k.to hb).c8_7⟩
theorem keep12 {V X : World} {B C D : Nat} {a0 a1 a2 a3 a4 a5 a6 a7 b0 c0 c1 c2 : Value} {T U T' : TypeId} (h : Blk V B #[a0, a1, a2, a3, a4, a5, a6, a7] T) (k : Blk V C #[b0] U) (l : Blk V D #[c0, c1, c2] T') (hb : Below V.heap.size V X) :
    X.cell? ⟨B, 0, none⟩ = some a0 ∧ X.cell? ⟨B, 1, none⟩ = some a1 ∧ X.cell? ⟨B, 2, none⟩ = some a2 ∧ X.cell? ⟨B, 3, none⟩ = some a3 ∧ X.cell? ⟨B, 4, none⟩ = some a4 ∧ X.cell? ⟨B, 5, none⟩ = some a5 ∧ X.cell? ⟨B, 6, none⟩ = some a6 ∧ X.cell? ⟨B, 7, none⟩ = some a7 ∧ X.cell? ⟨C, 0, none⟩ = some b0 ∧ X.cell? ⟨D, 0, none⟩ = some c0 ∧ X.cell? ⟨D, 1, none⟩ = some c1 ∧ X.cell? ⟨D, 2, none⟩ = some c2 :=
  ⟨(h.to hb).c8_0, (h.to hb).c8_1, (h.to hb).c8_2, (h.to hb).c8_3, (h.to hb).c8_4, (h.to hb).c8_5, (h.to hb).c8_6, (h.to hb).c8_7, (k.to hb).cell0 rfl, (l.to hb).cell0 rfl, (l.to hb).cell0 rfl, (l.to hb).cell0 rfl⟩
set_option maxRecDepth 100000 in
set_option maxHeartbeats 12800000 in
theorem law_adt (am : Option Addr) (nm cm : Nat) (zs : List Int) (q bx cy lo hi : Int) (an : Option Addr) (nn cn : Nat) (ps : List H3) (al : Option Addr) (nl cl : Nat) (qs : List H3) (a : Option Addr) (n ca : Nat) (rs : List H3) (sX sY sD : Int) (wsX : (Lit.int .i64 sX).wf = true) (wsY : (Lit.int .i64 sY).wf = true) (wsD : (Lit.int .i64 sD).wf = true) (w : World) (h64 : R64 q bx cy lo hi ps qs) (h1 : nm ≤ maxLen) (h2 : nn ≤ maxLen) (h3 : nl ≤ maxLen) (hA : RAt w am nm zs an nn ps al nl qs) (hl : rs.length = n) (hn : n ≤ maxLen) (hr64 : ∀ h ∈ rs, In64 h) (hG : HsAt w a rs) :
    Calls Tryz.prog 3 #[.agg #[.slice am nm cm, .int .i64 q, .int .i64 bx, .int .i64 cy, .int .i64 lo, .int .i64 hi, .slice an nn cn, .slice al nl cl], .agg #[.slice a n ca], .agg #[.int .i64 sX, .int .i64 sY, .int .i64 sD]] w fun e w' => e = .returned (.bool true) ∧ Below w.heap.size w w' := by
  have bV := below_bx2 (below_bx2 (below_one w (.cells #[.slice am nm cm, .int .i64 q, .int .i64 bx, .int .i64 cy, .int .i64 lo, .int .i64 hi, .slice an nn cn, .slice al nl cl] 27)) (.cells #[.slice a n ca] 25)) (.cells #[.int .i64 sX, .int .i64 sY, .int .i64 sD] 29)
  have K0 := ((blk_new w #[.slice am nm cm, .int .i64 q, .int .i64 bx, .int .i64 cy, .int .i64 lo, .int .i64 hi, .slice an nn cn, .slice al nl cl] 27 (b := w.heap.size) (by simp)).to (below_one _ (.cells #[.slice a n ca] 25))).to (below_one _ (.cells #[.int .i64 sX, .int .i64 sY, .int .i64 sD] 29))
  have K1 := (blk_new (w.alloc (.cells #[.slice am nm cm, .int .i64 q, .int .i64 bx, .int .i64 cy, .int .i64 lo, .int .i64 hi, .slice an nn cn, .slice al nl cl] 27)) #[.slice a n ca] 25 (b := w.heap.size + 1) (by simp)).to (below_one _ (.cells #[.int .i64 sX, .int .i64 sY, .int .i64 sD] 29))
  have K2 := blk_new ((w.alloc (.cells #[.slice am nm cm, .int .i64 q, .int .i64 bx, .int .i64 cy, .int .i64 lo, .int .i64 hi, .slice an nn cn, .slice al nl cl] 27)).alloc (.cells #[.slice a n ca] 25)) #[.int .i64 sX, .int .i64 sY, .int .i64 sD] 29 (b := w.heap.size + 1 + 1) (by simp)
  by_cases hle : (nm : Int) + nn + nl ≤ 1048576
  · by_cases hle2 : (n : Int) ≤ 1048576 - nm - nn - nl
    · have HZ := Lib.hid (fun V => sz_room am nm cm q bx cy lo hi an nn cn al nl cl V h1 h2 h3 1048576 (by omega) (by omega) (1048576 - nm - nn - nl) (by rw [if_pos hle]))
      have HY := Lib.hid (fun V => sz_region a n ca V hn (1048576 - nm - nn - nl) (by omega) (by omega) (1048576 - nm - nn - nl - n) (by rw [if_pos hle2]))
      have HT := Lib.hid (fun V (h : Below w.heap.size w V) => to_room am nm cm zs q bx cy lo hi an nn cn ps al nl cl qs V (hA.below h) (by omega))
      have HTG := Lib.hid (fun V (h : Below w.heap.size w V) => to_region2 a n ca rs V hl (by omega) (hG.below h))
      have HE := Lib.hid (fun V am1 cm1 an1 cn1 al1 cl1 am2 cm2 an2 cn2 al2 cl2 (k1 : RAt V am1 nm zs an1 nn ps al1 nl qs) (k2 : RAt V am2 nm zs an2 nn ps al2 nl qs) => eq_room am1 nm cm1 zs q bx cy lo hi an1 nn cn1 ps al1 nl cl1 qs am2 cm2 an2 cn2 al2 cl2 V k1 k2 (by omega))
      have HEG := Lib.hid (fun V a1 a2 c1 c2 (k1 : HsAt V a1 rs) (k2 : HsAt V a2 rs) => eq_region a1 a2 n c1 c2 rs V hl (by omega) k1 k2)
      have HS := Lib.hid (fun V am1 cm1 an1 cn1 al1 cl1 a1 c1 (k0 : RNil am1 nm cm1 an1 nn cn1 al1 nl cl1) (k1 : RAt V am1 nm zs an1 nn ps al1 nl qs) (g0 : a1 = none → n = 0 ∧ c1 = 0) (g1 : HsAt V a1 rs) => spec_adt am1 nm cm1 zs q bx cy lo hi an1 nn cn1 ps al1 nl cl1 qs a1 n c1 rs sX sY sD ⟨bounds_i64 wsX, bounds_i64 wsY, bounds_i64 wsD⟩ V k1 h64 (by omega) hl (by omega) hr64 g0 g1 k0)
      have HI := Lib.hid (fun V am1 cm1 an1 cn1 al1 cl1 a1 c1 (k1 : RAt V am1 nm zs an1 nn ps al1 nl qs) (g0 : a1 = none → n = 0 ∧ c1 = 0) (g1 : HsAt V a1 rs) => impl_adt am1 nm cm1 zs q bx cy lo hi an1 nn cn1 ps al1 nl cl1 qs a1 n c1 rs sX sY sD ⟨bounds_i64 wsX, bounds_i64 wsY, bounds_i64 wsD⟩ V k1 h64 (by omega) hl (by omega) hr64 g0 g1)
      generalize adtN zs q bx cy lo hi ps qs sX sY sD rs (adtS zs q bx cy lo hi ps qs sX sY sD rs).lN = n1 at *
      generalize adtN zs q bx cy lo hi ps qs sX sY sD rs (adtS zs q bx cy lo hi ps qs sX sY sD rs).lD = n2 at *
      generalize adtN zs q bx cy lo hi ps qs sX sY sD rs (adtS zs q bx cy lo hi ps qs sX sY sD rs).hN = n3 at *
      generalize adtN zs q bx cy lo hi ps qs sX sY sD rs (adtS zs q bx cy lo hi ps qs sX sY sD rs).hD = n4 at *
      generalize adtB zs q bx cy lo hi ps qs sX sY sD rs = R at *
      have hz1 : ¬ (1048576 - (nm : Int) - nn - nl < 0) := by omega
      have hz2 : ¬ (1048576 - (nm : Int) - nn - nl - n < 0) := by omega
      clear wsX wsY wsD hA h64 h1 h2 h3 hl hn hr64 hG
      go_enter Tryz.func3, Tryz.ntmps3
      have c0_0 := K0.c8_0
      have c0_1 := K0.c8_1
      have c0_2 := K0.c8_2
      have c0_3 := K0.c8_3
      have c0_4 := K0.c8_4
      have c0_5 := K0.c8_5
      have c0_6 := K0.c8_6
      have c0_7 := K0.c8_7
      go_wp2_with fail
      clear c0_0 c0_1 c0_2 c0_3 c0_4 c0_5 c0_6 c0_7
      generalize (((w.alloc (.cells #[.slice am nm cm, .int .i64 q, .int .i64 bx, .int .i64 cy, .int .i64 lo, .int .i64 hi, .slice an nn cn, .slice al nl cl] 27)).alloc (.cells #[.slice a n ca] 25)).alloc (.cells #[.int .i64 sX, .int .i64 sY, .int .i64 sD] 29)) = V at *
      refine (HZ.out _).mono ?_
      rintro e w1 ⟨rfl, bl1⟩
      have P0_1 := K0.to bl1
      have P1_2 := K1.to bl1
      have P2_3 := K2.to bl1
      have b_4 := below_to bV bl1
      clear K0 K1 K2 bV
      clear bl1 HZ
      have c1 := P1_2.cell0 (i := 0) (v := .slice a n ca) rfl
      go_wp2_with fail
      clear c1
      refine (HY.out _).mono ?_
      rintro e w2 ⟨rfl, bl2⟩
      have P0_5 := P0_1.to bl2
      have P1_6 := P1_2.to bl2
      have P2_7 := P2_3.to bl2
      have b_8 := below_to b_4 bl2
      clear P0_1 P1_2 P2_3 b_4
      clear bl2 HY
      go_wp2
      go_cut [8, 9] from 25 to 33 (fun s5 s6 wx => (∃ g, s5 = .pointer (some ⟨g, 0, none⟩) ∧ w2.heap.size ≤ g ∧ Blk wx g #[.int .i64 n1, .int .i64 n2, .int .i64 n3, .int .i64 n4] 35 ∧ Below w2.heap.size w2 wx) ∧ s6 = .bool R)
      case first =>
        have p0 := P0_5.c8_0
        have p1 := P0_5.c8_1
        have p2 := P0_5.c8_2
        have p3 := P0_5.c8_3
        have p4 := P0_5.c8_4
        have p5 := P0_5.c8_5
        have p6 := P0_5.c8_6
        have p7 := P0_5.c8_7
        have q0 := P1_6.cell0 (i := 0) rfl
        have r0 := P2_7.cell0 (i := 0) (v := .int .i64 sX) rfl
        have r1 := P2_7.cell0 (i := 1) (v := .int .i64 sY) rfl
        have r2 := P2_7.cell0 (i := 2) (v := .int .i64 sD) rfl
        go_region_held3 (fun w' => w'.cell? ⟨w.heap.size, 0, none⟩ = some (.slice am nm cm) ∧ w'.cell? ⟨w.heap.size, 1, none⟩ = some (.int .i64 q) ∧ w'.cell? ⟨w.heap.size, 2, none⟩ = some (.int .i64 bx) ∧ w'.cell? ⟨w.heap.size, 3, none⟩ = some (.int .i64 cy) ∧ w'.cell? ⟨w.heap.size, 4, none⟩ = some (.int .i64 lo) ∧ w'.cell? ⟨w.heap.size, 5, none⟩ = some (.int .i64 hi) ∧ w'.cell? ⟨w.heap.size, 6, none⟩ = some (.slice an nn cn) ∧ w'.cell? ⟨w.heap.size, 7, none⟩ = some (.slice al nl cl) ∧ w'.cell? ⟨w.heap.size + 1, 0, none⟩ = some (.slice a n ca) ∧ w'.cell? ⟨w.heap.size + 1 + 1, 0, none⟩ = some (.int .i64 sX) ∧ w'.cell? ⟨w.heap.size + 1 + 1, 1, none⟩ = some (.int .i64 sY) ∧ w'.cell? ⟨w.heap.size + 1 + 1, 2, none⟩ = some (.int .i64 sD))
          ((with_reducible refine keep12 P0_5 P1_6 P2_7 ?_; repeat (first | (with_reducible exact Below.refl _ _) | refine Below.setCell ?_ (by first | (simp; done) | (simp; omega)) _ | refine below_bx2 ?_ _ | refine below_drw ?_ | refine below_to ?_ (by assumption))))
          (first | (go_at_call 10; (with_reducible refine (HT.out _ ?_).mono ?_); (focus (repeat (first | exact b_8 | refine below_drw ?_ | refine below_bx2 ?_ _ | refine below_to ?_ (by assumption)))); rintro e wR ⟨amR, cmR, anR, cnR, alR, clR, rfl, hoR, blR⟩; obtain ⟨hcR, hfR⟩ := bcl3 blR; have hsR := blR.size; (try simp at hsR)) | (go_at_call 12; (with_reducible refine (to_spot sX sY sD _).mono ?_); rintro e wA ⟨rfl, blA⟩; obtain ⟨hcA, hfA⟩ := bcl3 blA; have hsA := blA.size; (try simp at hsA)) | (go_at_call 11; (with_reducible refine (HTG.out _ ?_).mono ?_); (focus (repeat (first | exact b_8 | refine below_drw ?_ | refine below_bx2 ?_ _ | refine below_to ?_ (by assumption)))); rintro e wB ⟨aB, cB, rfl, hoB, blB⟩; obtain ⟨hcB, hfB⟩ := bcl3 blB; have hsB := blB.size; (try simp at hsB)) | (go_at_call 9; (with_reducible refine (HS.out _ _ _ _ _ _ _ _ _ hoR.nil ?_ (own_nil hoB) ?_).mono ?_); (focus ((refine hoR.at.below ?_); repeat (first | (with_reducible exact Below.refl _ _) | refine below_drw ?_ | refine below_bx2 ?_ _ | refine below_to ?_ (by assumption)))); (focus ((refine (own_hs hoB).below ?_); repeat (first | (with_reducible exact Below.refl _ _) | refine below_drw ?_ | refine below_bx2 ?_ _ | refine below_to ?_ (by assumption)))); rintro e wC ⟨rfl, blC⟩; obtain ⟨hcC, hfC⟩ := bcl3 blC; have hsC := blC.size; (try simp at hsC); (first | (with_reducible have hx := bcl3 (below_to (below_to (below_to blR blA) blB) blC)) | (with_reducible have hx := bcl3 (below_to (below_to (below_to blR blB) blA) blC)) | (with_reducible have hx := bcl3 (below_to (below_to (below_to blA blR) blB) blC)) | (with_reducible have hx := bcl3 (below_to (below_to (below_to blA blB) blR) blC)) | (with_reducible have hx := bcl3 (below_to (below_to (below_to blB blR) blA) blC)) | (with_reducible have hx := bcl3 (below_to (below_to (below_to blB blA) blR) blC)) | (with_reducible have hx := bcl3 (below_to (below_to blR blA) blC)) | (with_reducible have hx := bcl3 (below_to (below_to blR blB) blC)) | (with_reducible have hx := bcl3 (below_to (below_to blA blR) blC)) | (with_reducible have hx := bcl3 (below_to (below_to blA blB) blC)) | (with_reducible have hx := bcl3 (below_to (below_to blB blR) blC)) | (with_reducible have hx := bcl3 (below_to (below_to blB blA) blC)) | (with_reducible have hx := bcl3 (below_to blR blC)) | (with_reducible have hx := bcl3 (below_to blA blC)) | (with_reducible have hx := bcl3 (below_to blB blC)) | skip); (try obtain ⟨hxc, hxf⟩ := hx)))
        all_goals
          go_wp2_with fail
          go_meet
          refine ⟨⟨_, rfl, ?_, ?_, ?_⟩, rfl⟩
          · first | exact Nat.le_refl _ | omega | (simp; omega)
          · first
            | (unfold Blk; with_reducible exact heap_alloc_new _ _)
            | (unfold Blk; with_reducible refine blk_s4 (a0 := .int .i64 0) (a1 := .int .i64 0) (a2 := .int .i64 0) (a3 := .int .i64 0) ?_ _ _ _ _
               apply at_new3 (Z := .cells #[.int .i64 0, .int .i64 0, .int .i64 0, .int .i64 0] 35)
               · repeat (first | (with_reducible exact Below.refl _ _) | refine below_bx2 ?_ _ | refine below_drw ?_ | refine below_to ?_ (by assumption))
               · first | rfl | (simp; done))
          · repeat (first | (with_reducible exact Below.refl _ _) | refine Below.setCell ?_ (by first | (simp; done) | (simp; omega)) _ | refine below_bx2 ?_ _ | refine below_drw ?_ | refine below_to ?_ (by assumption))
      case rest =>
        obtain ⟨⟨gw, rfl, hgw, hG, hb6⟩, rfl⟩ := hcut
        rename World => wc
        have KW : Blk wc gw #[.int .i64 n1, .int .i64 n2, .int .i64 n3, .int .i64 n4] 35 := hG
        clear hG hgw
        have P0_9 := P0_5.to hb6
        have P1_10 := P1_6.to hb6
        have P2_11 := P2_7.to hb6
        have b_12 := below_to b_8 hb6
        clear P0_5 P1_6 P2_7 b_8
        clear hb6
        have c0 := P0_9.c8_0
        have c1 := P0_9.c8_1
        have c2 := P0_9.c8_2
        have c3 := P0_9.c8_3
        have c4 := P0_9.c8_4
        have c5 := P0_9.c8_5
        have c6 := P0_9.c8_6
        have c7 := P0_9.c8_7
        go_wp2_with fail
        clear c0 c1 c2 c3 c4 c5 c6 c7
        refine (HT.out _ b_12).mono ?_
        rintro e w4 ⟨am4, cm4, an4, cn4, al4, cl4, rfl, ho4, bl4⟩
        have bX := below_to bl4 (below_one w4 (.cells #[.slice am4 nm cm4, .int .i64 q, .int .i64 bx, .int .i64 cy, .int .i64 lo, .int .i64 hi, .slice an4 nn cn4, .slice al4 nl cl4] 42))
        have KX := blk_new w4 #[.slice am4 nm cm4, .int .i64 q, .int .i64 bx, .int .i64 cy, .int .i64 lo, .int .i64 hi, .slice an4 nn cn4, .slice al4 nl cl4] 42 rfl
        have OX := Lib.hid (ho4.below (below_one w4 (.cells #[.slice am4 nm cm4, .int .i64 q, .int .i64 bx, .int .i64 cy, .int .i64 lo, .int .i64 hi, .slice an4 nn cn4, .slice al4 nl cl4] 42)))
        have P0_13 := P0_9.to bX
        have P1_14 := P1_10.to bX
        have P2_15 := P2_11.to bX
        have b_16 := below_to b_12 bX
        have KW_17 := KW.to bX
        clear P0_9 P1_10 P2_11 b_12 KW
        clear bX bl4 ho4
        have c8 := P1_14.cell0 (i := 0) (v := .slice a n ca) rfl
        go_wp2_with fail
        clear c8
        generalize w4.alloc (.cells #[.slice am4 nm cm4, .int .i64 q, .int .i64 bx, .int .i64 cy, .int .i64 lo, .int .i64 hi, .slice an4 nn cn4, .slice al4 nl cl4] 42) = X at *
        obtain ⟨ex, hex⟩ : ∃ b, w4.heap.size = b := ⟨_, rfl⟩
        rw [hex] at KX ⊢
        clear hex
        refine (HTG.out _ b_16).mono ?_
        rintro e w5 ⟨ay, cy1, rfl, ho5, bl5⟩
        have bY := below_to bl5 (below_one w5 (.cells #[.slice ay n cy1] 40))
        have KY := blk_new w5 #[.slice ay n cy1] 40 rfl
        have OY := Lib.hid (own_below ho5 (below_one w5 (.cells #[.slice ay n cy1] 40)))
        have P0_18 := P0_13.to bY
        have P1_19 := P1_14.to bY
        have P2_20 := P2_15.to bY
        have b_21 := below_to b_16 bY
        have KW_22 := KW_17.to bY
        have KX_23 := KX.to bY
        have OX_24 := Lib.hid (OX.out.below bY)
        clear P0_13 P1_14 P2_15 b_16 KW_17 KX OX
        clear bY bl5 ho5
        go_wp2
        generalize w5.alloc (.cells #[.slice ay n cy1] 40) = Y at *
        obtain ⟨ey, hey⟩ : ∃ b, w5.heap.size = b := ⟨_, rfl⟩
        rw [hey] at KY ⊢
        clear hey
        go_cut [12, 13] from 39 to 45 (fun s5 s6 wx => (∃ g, s5 = .pointer (some ⟨g, 0, none⟩) ∧ Y.heap.size ≤ g ∧ Blk wx g #[.int .i64 n1, .int .i64 n2, .int .i64 n3, .int .i64 n4] 35 ∧ Below Y.heap.size Y wx) ∧ s6 = .bool R)
        case first =>
          have p0 := KX_23.c8_0
          have p1 := KX_23.c8_1
          have p2 := KX_23.c8_2
          have p3 := KX_23.c8_3
          have p4 := KX_23.c8_4
          have p5 := KX_23.c8_5
          have p6 := KX_23.c8_6
          have p7 := KX_23.c8_7
          have q0 := KY.cell0 (i := 0) rfl
          have r0 := P2_20.cell0 (i := 0) (v := .int .i64 sX) rfl
          have r1 := P2_20.cell0 (i := 1) (v := .int .i64 sY) rfl
          have r2 := P2_20.cell0 (i := 2) (v := .int .i64 sD) rfl
          have lx := KX_23.lt
          have ly := KY.lt
          go_region_held3 (fun w' => w'.cell? ⟨ex, 0, none⟩ = some (.slice am4 nm cm4) ∧ w'.cell? ⟨ex, 1, none⟩ = some (.int .i64 q) ∧ w'.cell? ⟨ex, 2, none⟩ = some (.int .i64 bx) ∧ w'.cell? ⟨ex, 3, none⟩ = some (.int .i64 cy) ∧ w'.cell? ⟨ex, 4, none⟩ = some (.int .i64 lo) ∧ w'.cell? ⟨ex, 5, none⟩ = some (.int .i64 hi) ∧ w'.cell? ⟨ex, 6, none⟩ = some (.slice an4 nn cn4) ∧ w'.cell? ⟨ex, 7, none⟩ = some (.slice al4 nl cl4) ∧ w'.cell? ⟨ey, 0, none⟩ = some (.slice ay n cy1) ∧ w'.cell? ⟨w.heap.size + 1 + 1, 0, none⟩ = some (.int .i64 sX) ∧ w'.cell? ⟨w.heap.size + 1 + 1, 1, none⟩ = some (.int .i64 sY) ∧ w'.cell? ⟨w.heap.size + 1 + 1, 2, none⟩ = some (.int .i64 sD))
            ((with_reducible refine keep12 KX_23 KY P2_20 ?_; repeat (first | (with_reducible exact Below.refl _ _) | refine Below.setCell ?_ (by first | (simp; done) | (simp; omega)) _ | refine below_bx2 ?_ _ | refine below_drw ?_ | refine below_to ?_ (by assumption))))
            (first | (go_at_call 12; (with_reducible refine (to_spot sX sY sD _).mono ?_); rintro e wA ⟨rfl, blA⟩; obtain ⟨hcA, hfA⟩ := bcl3 blA; have hsA := blA.size; (try simp at hsA)) | (go_at_call 13; (with_reducible refine (HI.out _ _ _ _ _ _ _ _ _ ?_ (own_nil OY.out) ?_).mono ?_); (focus ((refine OX_24.out.at.below ?_); repeat (first | (with_reducible exact Below.refl _ _) | refine below_drw ?_ | refine below_bx2 ?_ _ | refine below_to ?_ (by assumption)))); (focus ((refine (own_hs OY.out).below ?_); repeat (first | (with_reducible exact Below.refl _ _) | refine below_drw ?_ | refine below_bx2 ?_ _ | refine below_to ?_ (by assumption)))); rintro e wC ⟨rfl, blC⟩; obtain ⟨hcC, hfC⟩ := bcl3 blC; have hsC := blC.size; (try simp at hsC); (first | (with_reducible have hx := bcl3 (below_to blA blC)) | skip); (try obtain ⟨hxc, hxf⟩ := hx)))
          all_goals
            go_wp2_with fail
            go_meet
            refine ⟨⟨_, rfl, ?_, ?_, ?_⟩, rfl⟩
            · first | exact Nat.le_refl _ | omega | (simp; omega)
            · first
              | (unfold Blk; with_reducible exact heap_alloc_new _ _)
              | (unfold Blk; with_reducible refine blk_s4 (a0 := .int .i64 0) (a1 := .int .i64 0) (a2 := .int .i64 0) (a3 := .int .i64 0) ?_ _ _ _ _
                 apply at_new3 (Z := .cells #[.int .i64 0, .int .i64 0, .int .i64 0, .int .i64 0] 35)
                 · repeat (first | (with_reducible exact Below.refl _ _) | refine below_bx2 ?_ _ | refine below_drw ?_ | refine below_to ?_ (by assumption))
                 · first | rfl | (simp; done))
            · repeat (first | (with_reducible exact Below.refl _ _) | refine Below.setCell ?_ (by first | (simp; done) | (simp; omega)) _ | refine below_bx2 ?_ _ | refine below_drw ?_ | refine below_to ?_ (by assumption))
        case rest =>
          obtain ⟨⟨gi, rfl, hgi, hG, hb7⟩, rfl⟩ := hcut
          rename World => w7
          have KI : Blk w7 gi #[.int .i64 n1, .int .i64 n2, .int .i64 n3, .int .i64 n4] 35 := hG
          clear hG hgi
          have P0_25 := P0_18.to hb7
          have P1_26 := P1_19.to hb7
          have P2_27 := P2_20.to hb7
          have b_28 := below_to b_21 hb7
          have KW_29 := KW_22.to hb7
          have KX_30 := KX_23.to hb7
          have OX_31 := Lib.hid (OX_24.out.below hb7)
          have KY_32 := KY.to hb7
          have OY_33 := Lib.hid (own_below OY.out hb7)
          clear P0_18 P1_19 P2_20 b_21 KW_22 KX_23 OX_24 KY OY
          clear hb7
          have q0 := KW_29.cell0 (i := 0) (v := .int .i64 n1) rfl
          have r0 := KI.cell0 (i := 0) (v := .int .i64 n1) rfl
          have q1 := KW_29.cell0 (i := 1) (v := .int .i64 n2) rfl
          have r1 := KI.cell0 (i := 1) (v := .int .i64 n2) rfl
          have q2 := KW_29.cell0 (i := 2) (v := .int .i64 n3) rfl
          have r2 := KI.cell0 (i := 2) (v := .int .i64 n3) rfl
          have q3 := KW_29.cell0 (i := 3) (v := .int .i64 n4) rfl
          have r3 := KI.cell0 (i := 3) (v := .int .i64 n4) rfl
          go_wp2_with fail
          clear q0 r0 q1 r1 q2 r2 q3 r3
          refine (eq_span n1 n2 n3 n4 _).mono ?_
          rintro e wz ⟨rfl, blz⟩
          have P0_34 := P0_25.to blz
          have P1_35 := P1_26.to blz
          have P2_36 := P2_27.to blz
          have b_37 := below_to b_28 blz
          have KW_38 := KW_29.to blz
          have KX_39 := KX_30.to blz
          have OX_40 := Lib.hid (OX_31.out.below blz)
          have KY_41 := KY_32.to blz
          have OY_42 := Lib.hid (own_below OY_33.out blz)
          have KI_43 := KI.to blz
          clear P0_25 P1_26 P2_27 b_28 KW_29 KX_30 OX_31 KY_32 OY_33 KI
          clear blz
          go_wp2
          go_region_held3 (fun w' => w'.cell? ⟨ex, 0, none⟩ = some (.slice am4 nm cm4) ∧ w'.cell? ⟨ex, 1, none⟩ = some (.int .i64 q) ∧ w'.cell? ⟨ex, 2, none⟩ = some (.int .i64 bx) ∧ w'.cell? ⟨ex, 3, none⟩ = some (.int .i64 cy) ∧ w'.cell? ⟨ex, 4, none⟩ = some (.int .i64 lo) ∧ w'.cell? ⟨ex, 5, none⟩ = some (.int .i64 hi) ∧ w'.cell? ⟨ex, 6, none⟩ = some (.slice an4 nn cn4) ∧ w'.cell? ⟨ex, 7, none⟩ = some (.slice al4 nl cl4) ∧ w'.cell? ⟨w.heap.size, 0, none⟩ = some (.slice am nm cm) ∧ w'.cell? ⟨w.heap.size, 1, none⟩ = some (.int .i64 q) ∧ w'.cell? ⟨w.heap.size, 2, none⟩ = some (.int .i64 bx) ∧ w'.cell? ⟨w.heap.size, 3, none⟩ = some (.int .i64 cy) ∧ w'.cell? ⟨w.heap.size, 4, none⟩ = some (.int .i64 lo) ∧ w'.cell? ⟨w.heap.size, 5, none⟩ = some (.int .i64 hi) ∧ w'.cell? ⟨w.heap.size, 6, none⟩ = some (.slice an nn cn) ∧ w'.cell? ⟨w.heap.size, 7, none⟩ = some (.slice al nl cl))
            ((refine room16n KX_39 P0_34 ?_; repeat (first | (with_reducible exact Below.refl _ _) | refine below_drw ?_ | refine below_bx2 ?_ _ | refine below_to ?_ (by assumption))))
            (first | (go_at_call 10; (with_reducible refine (HT.out _ ?_).mono ?_); (focus (repeat (first | exact b_37 | refine below_drw ?_ | refine below_bx2 ?_ _ | refine below_to ?_ (by assumption)))); rintro e w8 ⟨am7, cm7, an7, cn7, al7, cl7, rfl, ho8, bl8⟩) | (go_at_call 15; (with_reducible refine (HE.out _ _ _ _ _ _ _ _ _ _ _ _ _ ?_ ?_).mono ?_); (focus ((refine OX_40.out.at.below ?_); repeat (first | (with_reducible exact Below.refl _ _) | refine below_drw ?_ | refine below_bx2 ?_ _ | refine below_to ?_ (by assumption)))); (focus (exact ho8.at)); rintro e w9 ⟨rfl, bl9⟩))
          have blj : Below wz.heap.size wz w9 := below_to (below_to (below_drw (Below.refl _ _)) bl8) bl9
          have P0_44 := P0_34.to blj
          have P1_45 := P1_35.to blj
          have P2_46 := P2_36.to blj
          have b_47 := below_to b_37 blj
          have KW_48 := KW_38.to blj
          have KX_49 := KX_39.to blj
          have OX_50 := Lib.hid (OX_40.out.below blj)
          have KY_51 := KY_41.to blj
          have OY_52 := Lib.hid (own_below OY_42.out blj)
          have KI_53 := KI_43.to blj
          clear P0_34 P1_35 P2_36 b_37 KW_38 KX_39 OX_40 KY_41 OY_42 KI_43
          clear bl8 bl9 blj ho8
          go_wp2
          go_region_held3 (fun w' => w'.cell? ⟨ey, 0, none⟩ = some (.slice ay n cy1) ∧ w'.cell? ⟨w.heap.size + 1, 0, none⟩ = some (.slice a n ca))
            ((refine twoc (KY_51.cell0 (i := 0) rfl) (P1_45.cell0 (i := 0) rfl) ?_; repeat (first | (with_reducible exact Below.refl _ _) | refine below_drw ?_ | refine below_bx2 ?_ _ | refine below_to ?_ (by assumption))))
            (first | (go_at_call 11; (with_reducible refine (HTG.out _ ?_).mono ?_); (focus (repeat (first | exact b_47 | refine below_drw ?_ | refine below_bx2 ?_ _ | refine below_to ?_ (by assumption)))); rintro e w10 ⟨ao10, cp10, rfl, ho10, bl10⟩) | (go_at_call 16; (with_reducible refine (HEG.out _ _ _ _ _ ?_ ?_).mono ?_); (focus ((refine (own_hs OY_52.out).below ?_); repeat (first | (with_reducible exact Below.refl _ _) | refine below_drw ?_ | refine below_bx2 ?_ _ | refine below_to ?_ (by assumption)))); (focus (exact own_hs ho10)); rintro e w11 ⟨rfl, bl11⟩))
          all_goals
            go_wp2
            go_ret
            refine ⟨rfl, ?_⟩
            repeat (first | exact b_47 | refine below_drw ?_ | refine below_bx2 ?_ _ | refine below_to ?_ (by assumption))
    · have HZ := Lib.hid (fun V => sz_room am nm cm q bx cy lo hi an nn cn al nl cl V h1 h2 h3 1048576 (by omega) (by omega) (1048576 - nm - nn - nl) (by rw [if_pos hle]))
      have HY := Lib.hid (fun V => sz_region a n ca V hn (1048576 - nm - nn - nl) (by omega) (by omega) (-1) (by rw [if_neg hle2]))
      have hz1 : ¬ (1048576 - (nm : Int) - nn - nl < 0) := by omega
      clear wsX wsY wsD hA h64 h1 h2 h3 hl hn hr64 hG hle hle2
      go_enter Tryz.func3, Tryz.ntmps3
      have c0_0 := K0.c8_0
      have c0_1 := K0.c8_1
      have c0_2 := K0.c8_2
      have c0_3 := K0.c8_3
      have c0_4 := K0.c8_4
      have c0_5 := K0.c8_5
      have c0_6 := K0.c8_6
      have c0_7 := K0.c8_7
      go_wp2_with fail
      generalize (((w.alloc (.cells #[.slice am nm cm, .int .i64 q, .int .i64 bx, .int .i64 cy, .int .i64 lo, .int .i64 hi, .slice an nn cn, .slice al nl cl] 27)).alloc (.cells #[.slice a n ca] 25)).alloc (.cells #[.int .i64 sX, .int .i64 sY, .int .i64 sD] 29)) = V at *
      refine (HZ.out _).mono ?_
      rintro e w1 ⟨rfl, bl1⟩
      have b1 := below_to bV bl1
      have L1 := K1.to bl1
      clear c0_0 c0_1 c0_2 c0_3 c0_4 c0_5 c0_6 c0_7
      have c1 := L1.cell0 (i := 0) (v := .slice a n ca) rfl
      go_wp2_with fail
      refine (HY.out _).mono ?_
      rintro e w2 ⟨rfl, bl2⟩
      have b2 := below_to b1 bl2
      go_wp2
      go_ret
      exact ⟨rfl, b2⟩
  · have HZ := Lib.hid (fun V => sz_room am nm cm q bx cy lo hi an nn cn al nl cl V h1 h2 h3 1048576 (by omega) (by omega) (-1) (by rw [if_neg hle]))
    clear wsX wsY wsD hA h64 h1 h2 h3 hl hn hr64 hG hle
    go_enter Tryz.func3, Tryz.ntmps3
    have c0_0 := K0.c8_0
    have c0_1 := K0.c8_1
    have c0_2 := K0.c8_2
    have c0_3 := K0.c8_3
    have c0_4 := K0.c8_4
    have c0_5 := K0.c8_5
    have c0_6 := K0.c8_6
    have c0_7 := K0.c8_7
    go_wp2_with fail
    generalize (((w.alloc (.cells #[.slice am nm cm, .int .i64 q, .int .i64 bx, .int .i64 cy, .int .i64 lo, .int .i64 hi, .slice an nn cn, .slice al nl cl] 27)).alloc (.cells #[.slice a n ca] 25)).alloc (.cells #[.int .i64 sX, .int .i64 sY, .int .i64 sD] 29)) = V at *
    refine (HZ.out _).mono ?_
    rintro e w1 ⟨rfl, bl1⟩
    have b1 := below_to bV bl1
    go_wp2
    go_ret
    exact ⟨rfl, b1⟩
end Go.Proofs.YtibkmhmeoelpdaaGreat
