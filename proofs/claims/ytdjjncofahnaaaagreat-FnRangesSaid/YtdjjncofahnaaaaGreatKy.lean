/- The contract of the program's slices.Clone of ints, over the translation. A room with memory of its own: the program's roomIfOk, over the translation. -/
import Derived.Test.YtdjjncofahnaaaaGreatMz
import Derived.Test.YtdjjncofahnaaaaGreatIz
import Derived.Test.YtdjjncofahnaaaaGreatKd
import Derived.Test.YtdjjncofahnaaaaGreatKf
namespace Go.Proofs.YtdjjncofahnaaaaGreat
open Go.RowKit
open Geo (H3)

theorem own1_none {w : World} {B : Nat} {e : TypeId} : w.ownsRow B e 1 (.slice none 0 0) 0 [] := ⟨by simp, .inl ⟨rfl, rfl⟩⟩
theorem own1_empty (w : World) {B b : Nat} (hb : w.heap.size = b) (h : B ≤ b) : (w.alloc (.cells #[] 3)).ownsRow B 3 1 (.slice (some ⟨b, 0, none⟩) 0 0) 0 [] := by
  subst hb
  exact ⟨by simp, .inr ⟨w.heap.size, 0, #[], rfl, h, heap_alloc_new w _, Nat.le_refl _, by unfold maxLen; omega, by simp, by simp⟩⟩
theorem IsAt.below' {w w' : World} {a : Option Addr} {zs : List Int} (h : IsAt w a zs) (hb : Below w.heap.size w w') : IsAt w' a zs := fun i z hz => by
  obtain ⟨g, o, e, t⟩ := h i z hz
  exact ⟨g, o, e, cell_to t hb⟩
theorem is_cells {w : World} {ad : Addr} {zs : List Int} (h : IsAt w (some ad) zs) : ∀ j u, (zs.map (Value.int .i64))[j]? = some u → w.cell? (ad.add j) = some u := by
  intro j u hu
  rw [List.getElem?_map] at hu
  obtain ⟨z, hz, rfl⟩ := Option.map_eq_some_iff.1 hu
  obtain ⟨g, o, e, t⟩ := h _ _ hz
  obtain rfl := Option.some.inj e
  rw [addr_add]
  exact t
theorem ints_one (zs : List Int) : ∀ v ∈ zs.map (Value.int .i64), v.oneCell' = true := by
  intro v h
  obtain ⟨z, _, rfl⟩ := List.mem_map.1 h
  rfl
set_option maxRecDepth 100000 in
set_option maxHeartbeats 1600000 in
theorem clone_i (a : Option Addr) (n ca : Nat) (zs : List Int) (w : World) (hl : zs.length = n) (hn : n ≤ 1048576) (h0 : (a = none ∧ n = 0 ∧ ca = 0) ∨ 0 < n) (hA : IsAt w a zs) :
    Calls Tryz.prog 119 #[.slice a n ca] w fun e w' => ∃ ao cp, e = .returned (.slice ao n cp) ∧ w'.ownsRow w.heap.size 3 1 (.slice ao n cp) n (zs.map (Value.int .i64)) ∧ Below w.heap.size w w' := by
  obtain ⟨i0, hi, hz0, hz1, hz2⟩ := info_parts Tryz.info3i
  have hsn := fun (W : World) (x : Option Addr) (l c : Nat) => eql_nil W x l c Tryz.underlying23
  rcases h0 with ⟨rfl, rfl, rfl⟩ | h0
  · obtain rfl := List.eq_nil_of_length_eq_zero hl
    go_enter Tryz.func119, Tryz.ntmps119
    go_wp2
    go_ret
    exact ⟨none, 0, rfl, own1_none, Below.refl _ _⟩
  · obtain ⟨x0, hx0⟩ : ∃ x, zs[0]? = some x := ⟨_, List.getElem?_eq_getElem (by omega)⟩
    obtain ⟨ga, oa, rfl, _⟩ := hA 0 _ hx0
    have HF := Lib.hid (show (zs.map (Value.int .i64)).length = n * 1 by rw [List.length_map, hl, Nat.mul_one])
    have HD := Lib.hid (is_cells (hA.below' (below_one w (.cells #[] 3))))
    have HO := Lib.hid (own1_empty (B := w.heap.size) w rfl (Nat.le_refl _))
    clear hA hx0 hl
    go_enter Tryz.func119, Tryz.ntmps119
    go_wp2_with (at_builtin; refine wpList_append_lies _ rfl _ _ 23 rfl w.heap.size 3 i0 (.int .i64 0) 1 8 Tryz.underlying23 hi hz0 hz1 hz2 rfl (by decide) (.slice (some ⟨w.heap.size, 0, none⟩) 0 0) 0 [] rfl HO.out ⟨ga, oa, none⟩ n ca (zs.map (Value.int .i64)) rfl HF.out HD.out (ints_one _) h0 (by unfold maxLen; omega) (by omega) (by simp) _ rfl ?_; intro gg cap' w7 hown7 hgrow hat hlt7; have b7 : Below w.heap.size w w7 := Below.grown (below_one _ _) hgrow (by simp) (fun p hp => own_base_le HO.out hp); have H7 := Lib.hid hown7; clear hown7 hgrow hat)
    rw [Nat.zero_add] at H7
    go_ret
    exact ⟨_, _, rfl, H7.out, b7⟩

/-- the room and true, or the empty room and false -/
def AnsM (w : World) (b : Bool) (zs : List Int) (q bx cy lo hi : Int) (ps qs : List H3) (e : Ending) (w' : World) : Prop :=
  (b = false ∧ e = .returned (.tuple #[.agg #[.slice none 0 0, .int .i64 0, .int .i64 0, .int .i64 0, .int .i64 0, .int .i64 0, .slice none 0 0, .slice none 0 0], .bool false]) ∧ Below w.heap.size w w') ∨
  (b = true ∧ ∃ am cm an cn al cl, e = .returned (.tuple #[.agg #[.slice am zs.length cm, .int .i64 q, .int .i64 bx, .int .i64 cy, .int .i64 lo, .int .i64 hi, .slice an ps.length cn, .slice al qs.length cl], .bool true]) ∧ ROwn w' w.heap.size am zs.length cm zs an ps.length cn ps al qs.length cl qs ∧ Below w.heap.size w w')
theorem AnsM.no {w w' : World} {b : Bool} {zs : List Int} {q bx cy lo hi : Int} {ps qs : List H3} (h : b = false) (hb : Below w.heap.size w w') : AnsM w b zs q bx cy lo hi ps qs (.returned (.tuple #[.agg #[.slice none 0 0, .int .i64 0, .int .i64 0, .int .i64 0, .int .i64 0, .int .i64 0, .slice none 0 0, .slice none 0 0], .bool false])) w' := Or.inl ⟨h, rfl, hb⟩
theorem AnsM.yes {w w' : World} {b : Bool} {zs : List Int} {q bx cy lo hi : Int} {ps qs : List H3} {am an al : Option Addr} {nm cm nn cn nl cl : Nat} (h : b = true) (hm : zs.length = nm) (hn : ps.length = nn) (hl : qs.length = nl) (ho : ROwn w' w.heap.size am nm cm zs an nn cn ps al nl cl qs) (hb : Below w.heap.size w w') : AnsM w b zs q bx cy lo hi ps qs (.returned (.tuple #[.agg #[.slice am nm cm, .int .i64 q, .int .i64 bx, .int .i64 cy, .int .i64 lo, .int .i64 hi, .slice an nn cn, .slice al nl cl], .bool true])) w' := by
  subst hm hn hl
  exact Or.inr ⟨h, am, cm, an, cn, al, cl, rfl, ho, hb⟩
theorem Blk.put {W : World} {B C : Nat} {cs : Array Value} {t : TypeId} (h : Blk W B cs t) (n : C ≠ B) (i : Nat) (u : Value) : Blk (W.setCell ⟨C, i, none⟩ u) B cs t := by
  unfold Blk at *
  rw [← h]
  exact Below.heap_setCell W ⟨C, i, none⟩ u B n.symm
/-- eight cells written in one block -/
def put8 (W : World) (B : Nat) (a0 a1 a2 a3 a4 a5 a6 a7 : Value) : World := ((((((((W).setCell ⟨B, 0, none⟩ (a0)).setCell ⟨B, 1, none⟩ (a1)).setCell ⟨B, 2, none⟩ (a2)).setCell ⟨B, 3, none⟩ (a3)).setCell ⟨B, 4, none⟩ (a4)).setCell ⟨B, 5, none⟩ (a5)).setCell ⟨B, 6, none⟩ (a6)).setCell ⟨B, 7, none⟩ (a7)
theorem put8_blk {W : World} {B : Nat} {t : TypeId} {c0 c1 c2 c3 c4 c5 c6 c7 : Value} (h : Blk W B #[c0, c1, c2, c3, c4, c5, c6, c7] t) (a0 a1 a2 a3 a4 a5 a6 a7 : Value) : Blk (put8 W B a0 a1 a2 a3 a4 a5 a6 a7) B #[a0, a1, a2, a3, a4, a5, a6, a7] t :=
  (((((((h.s8_0 a0).s8_1 a1).s8_2 a2).s8_3 a3).s8_4 a4).s8_5 a5).s8_6 a6).s8_7 a7
theorem put8_below {n B : Nat} {w W : World} (h : Below n w W) (hB : n ≤ B) (a0 a1 a2 a3 a4 a5 a6 a7 : Value) : Below n w (put8 W B a0 a1 a2 a3 a4 a5 a6 a7) := by
  unfold put8
  exact (((((((h.setCell (p := ⟨B, 0, none⟩) hB _).setCell (p := ⟨B, 1, none⟩) hB _).setCell (p := ⟨B, 2, none⟩) hB _).setCell (p := ⟨B, 3, none⟩) hB _).setCell (p := ⟨B, 4, none⟩) hB _).setCell (p := ⟨B, 5, none⟩) hB _).setCell (p := ⟨B, 6, none⟩) hB _).setCell (p := ⟨B, 7, none⟩) hB _
theorem put8_own {W : World} {B C n s : Nat} {e : TypeId} {v : Value} {xs : List Value} (h : W.ownsRow C e s v n xs) (hB : B < C) (a0 a1 a2 a3 a4 a5 a6 a7 : Value) : (put8 W B a0 a1 a2 a3 a4 a5 a6 a7).ownsRow C e s v n xs := by
  unfold put8
  exact own_far (own_far (own_far (own_far (own_far (own_far (own_far (own_far h (p := ⟨B, 0, none⟩) hB a0) (p := ⟨B, 1, none⟩) hB a1) (p := ⟨B, 2, none⟩) hB a2) (p := ⟨B, 3, none⟩) hB a3) (p := ⟨B, 4, none⟩) hB a4) (p := ⟨B, 5, none⟩) hB a5) (p := ⟨B, 6, none⟩) hB a6) (p := ⟨B, 7, none⟩) hB a7
set_option maxRecDepth 100000 in
set_option maxHeartbeats 3200000 in
theorem impl_rio (am : Option Addr) (nm cm : Nat) (zs : List Int) (q bx cy lo hi : Int) (an : Option Addr) (nn cn : Nat) (ps : List H3) (al : Option Addr) (nl cl : Nat) (qs : List H3) (w : World) (b : Bool) (hb : rmB zs q bx cy lo hi ps qs = b) (hA : RAt w am nm zs an nn ps al nl qs) (h64 : R64 q bx cy lo hi ps qs) (hle : nm + nn + nl ≤ 1048576) :
    Calls Tryz.prog 68 #[.agg #[.slice am nm cm, .int .i64 q, .int .i64 bx, .int .i64 cy, .int .i64 lo, .int .i64 hi, .slice an nn cn, .slice al nl cl]] w (AnsM w b zs q bx cy lo hi ps qs) := by
  have bV := below_bx2 (below_one w (.cells #[.slice am nm cm, .int .i64 q, .int .i64 bx, .int .i64 cy, .int .i64 lo, .int .i64 hi, .slice an nn cn, .slice al nl cl] 28)) (.cells #[.slice none 0 0, .int .i64 0, .int .i64 0, .int .i64 0, .int .i64 0, .int .i64 0, .slice none 0 0, .slice none 0 0] 28)
  have K0 := (blk_new w #[.slice am nm cm, .int .i64 q, .int .i64 bx, .int .i64 cy, .int .i64 lo, .int .i64 hi, .slice an nn cn, .slice al nl cl] 28 rfl).to (below_one _ (.cells #[.slice none 0 0, .int .i64 0, .int .i64 0, .int .i64 0, .int .i64 0, .int .i64 0, .slice none 0 0, .slice none 0 0] 28))
  have K1 := blk_new (w.alloc (.cells #[.slice am nm cm, .int .i64 q, .int .i64 bx, .int .i64 cy, .int .i64 lo, .int .i64 hi, .slice an nn cn, .slice al nl cl] 28)) #[.slice none 0 0, .int .i64 0, .int .i64 0, .int .i64 0, .int .i64 0, .int .i64 0, .slice none 0 0, .slice none 0 0] 28 (b := w.heap.size + 1) (by simp)
  have HR := Lib.hid (fun V (h : Below w.heap.size w V) => impl_room am nm cm zs q bx cy lo hi an nn cn ps al nl cl qs V _ rfl (hA.below h) h64 hle)
  have HA := Lib.hid hA
  have HB := Lib.hid hb
  clear hA hb
  have k0 := K0.c8_0
  have k1 := K0.c8_1
  have k2 := K0.c8_2
  have k3 := K0.c8_3
  have k4 := K0.c8_4
  have k5 := K0.c8_5
  have k6 := K0.c8_6
  have k7 := K0.c8_7
  go_enter Tryz.func68, Tryz.ntmps68
  go_wp2_with fail
  generalize ((w.alloc (.cells #[.slice am nm cm, .int .i64 q, .int .i64 bx, .int .i64 cy, .int .i64 lo, .int .i64 hi, .slice an nn cn, .slice al nl cl] 28)).alloc (.cells #[.slice none 0 0, .int .i64 0, .int .i64 0, .int .i64 0, .int .i64 0, .int .i64 0, .slice none 0 0, .slice none 0 0] 28)) = V at *
  refine (HR.out _ bV).mono ?_
  rintro e w1 ⟨rfl, bl1⟩
  have b1 := below_to bV bl1
  have L0 := K0.to bl1
  have L1 := K1.to bl1
  clear bV bl1 k0 k1 k2 k3 k4 k5 k6 k7 K0 K1 HR
  cases hr : rmB zs q bx cy lo hi ps qs with
  | false =>
    have HN := Lib.hid (show b = false by rw [← HB.out, hr])
    clear hr
    have f0 := L1.free 0
    have c0 := L1.c8_0
    have f1 := L1.free 1
    have c1 := L1.c8_1
    have f2 := L1.free 2
    have c2 := L1.c8_2
    have f3 := L1.free 3
    have c3 := L1.c8_3
    have f4 := L1.free 4
    have c4 := L1.c8_4
    have f5 := L1.free 5
    have c5 := L1.c8_5
    have f6 := L1.free 6
    have c6 := L1.c8_6
    have f7 := L1.free 7
    have c7 := L1.c8_7
    go_wp2_with fail
    clear f0 f1 f2 f3 f4 f5 f6 f7 c0 c1 c2 c3 c4 c5 c6 c7
    obtain hz : Blk (put8 w1 (w.heap.size + 1) (.slice none 0 0) (.int .i64 0) (.int .i64 0) (.int .i64 0) (.int .i64 0) (.int .i64 0) (.slice none 0 0) (.slice none 0 0)) _ _ _ := put8_blk L1 _ _ _ _ _ _ _ _
    have e0 := hz.c8_0
    have e1 := hz.c8_1
    have e2 := hz.c8_2
    have e3 := hz.c8_3
    have e4 := hz.c8_4
    have e5 := hz.c8_5
    have e6 := hz.c8_6
    have e7 := hz.c8_7
    unfold put8 at e0 e1 e2 e3 e4 e5 e6 e7
    exact bodyPost_ret (v := .tuple #[.agg #[.slice none 0 0, .int .i64 0, .int .i64 0, .int .i64 0, .int .i64 0, .int .i64 0, .slice none 0 0, .slice none 0 0], .bool false]) (by simp [results, Tryz.results68, go_sem, e0, e1, e2, e3, e4, e5, e6, e7]) rfl (AnsM.no HN.out (put8_below b1 (Nat.le_add_right _ _) _ _ _ _ _ _ _ _))
  | true =>
    have HN := Lib.hid (show b = true by rw [← HB.out, hr])
    obtain ⟨_, _, hm, _, _, np, _, nq, _⟩ := rm_rng hr
    have h4 : 0 < nm := by
      rcases Nat.eq_zero_or_pos nm with h | h
      · rw [map_len HA.out.lm (by omega)] at hm; cases hm
      · exact h
    have hp : 0 < nn := by rw [← HA.out.ln]; exact List.length_pos_iff.2 np
    have hq : 0 < nl := by rw [← HA.out.ll]; exact List.length_pos_iff.2 nq
    have H1 := Lib.hid (clone_i am nm cm zs w1 HA.out.lm (by omega) (.inr h4) (HA.out.hm.below b1))
    have H2 := Lib.hid (fun V (h : Below w.heap.size w V) => clone_h an nn cn ps V HA.out.ln (by omega) (.inr hp) (HA.out.hn.below h))
    have H3' := Lib.hid (fun V (h : Below w.heap.size w V) => clone_h al nl cl qs V HA.out.ll (by omega) (.inr hq) (HA.out.hl.below h))
    clear hr hm np nq
    have z1 : w.heap.size + 1 < w1.heap.size := L1.lt
    have k0 := L0.c8_0
    go_wp2_with fail
    refine H1.out.mono ?_
    rintro e w2 ⟨am', cm', rfl, ho1, bl2⟩
    clear k0 H1
    have z2 := bl2.size
    have b2 := below_to b1 bl2
    have M0 := L0.to bl2
    have M1 := L1.to bl2
    have HX1 := Lib.hid (own_far ho1 (p := ⟨w.heap.size, 0, none⟩) (by simp only; omega) (.slice am' nm cm'))
    have HL1 := Lib.hid (fun p (hp : (Value.slice am' nm cm').ownBlock = some p) => (own_block_lt ho1 hp).2)
    have bX := b2.setCell (p := ⟨w.heap.size, 0, none⟩) (Nat.le_refl _) (.slice am' nm cm')
    have N0 := M0.s8_0 (.slice am' nm cm')
    have N1 := blk_far M1 (p := ⟨w.heap.size, 0, none⟩) (.slice am' nm cm') (by simp)
    have sX : (w2.setCell ⟨w.heap.size, 0, none⟩ (.slice am' nm cm')).heap.size = w2.heap.size := by simp
    have f0 := M0.free 0
    have c0 := M0.c8_0
    have k6 := N0.c8_6
    go_wp2_with fail
    clear f0 c0 k6 L0 L1 M0 M1 ho1 bl2 b1 b2
    generalize w2.setCell ⟨w.heap.size, 0, none⟩ (.slice am' nm cm') = X1 at *
    refine (H2.out _ bX).mono ?_
    rintro e w3 ⟨an', cn', rfl, ho2, bl3⟩
    clear H2
    have z3 := bl3.size
    have b3 := below_to bX bl3
    have M0 := N0.to bl3
    have M1 := N1.to bl3
    have HY1 := Lib.hid (own_far (own_below HX1.out bl3) (p := ⟨w.heap.size, 6, none⟩) (by simp only; omega) (.slice an' nn cn'))
    have HY2 := Lib.hid (own_far ho2 (p := ⟨w.heap.size, 6, none⟩) (by simp only; omega) (.slice an' nn cn'))
    have HL2 := Lib.hid (fun p (hp : (Value.slice an' nn cn').ownBlock = some p) => own_block_lt ho2 hp)
    have bY := b3.setCell (p := ⟨w.heap.size, 6, none⟩) (Nat.le_refl _) (.slice an' nn cn')
    have O0 := M0.s8_6 (.slice an' nn cn')
    have O1 := blk_far M1 (p := ⟨w.heap.size, 6, none⟩) (.slice an' nn cn') (by simp)
    have sY : (w3.setCell ⟨w.heap.size, 6, none⟩ (.slice an' nn cn')).heap.size = w3.heap.size := by simp
    have f0 := M0.free 6
    have c0 := M0.c8_6
    have k7 := O0.c8_7
    go_wp2_with fail
    clear f0 c0 k7 M0 M1 N0 N1 ho2 bl3 b3 bX HX1
    generalize w3.setCell ⟨w.heap.size, 6, none⟩ (.slice an' nn cn') = X2 at *
    refine (H3'.out _ bY).mono ?_
    rintro e w4 ⟨al', cl', rfl, ho3, bl4⟩
    clear H3'
    have z4 := bl4.size
    have b4 := below_to bY bl4
    have M0 := O0.to bl4
    have M1 := O1.to bl4
    have HZ1 := Lib.hid (own_far (own_below HY1.out bl4) (p := ⟨w.heap.size, 7, none⟩) (by simp only; omega) (.slice al' nl cl'))
    have HZ2 := Lib.hid (own_far (own_below HY2.out bl4) (p := ⟨w.heap.size, 7, none⟩) (by simp only; omega) (.slice al' nl cl'))
    have HZ3 := Lib.hid (own_far ho3 (p := ⟨w.heap.size, 7, none⟩) (by simp only; omega) (.slice al' nl cl'))
    have HL3 := Lib.hid (fun p (hp : (Value.slice al' nl cl').ownBlock = some p) => (own_block_lt ho3 hp).1)
    have bZ := b4.setCell (p := ⟨w.heap.size, 7, none⟩) (Nat.le_refl _) (.slice al' nl cl')
    have P0 := M0.s8_7 (.slice al' nl cl')
    have P1 := blk_far M1 (p := ⟨w.heap.size, 7, none⟩) (.slice al' nl cl') (by simp)
    have f0 := M0.free 7
    have c0 := M0.c8_7
    generalize hX3 : w4.setCell ⟨w.heap.size, 7, none⟩ (.slice al' nl cl') = X3 at *
    have g0 := P1.free 0
    have d0 := P1.c8_0
    have k0 := P0.c8_0
    have g1 := P1.free 1
    have d1 := P1.c8_1
    have k1 := P0.c8_1
    have g2 := P1.free 2
    have d2 := P1.c8_2
    have k2 := P0.c8_2
    have g3 := P1.free 3
    have d3 := P1.c8_3
    have k3 := P0.c8_3
    have g4 := P1.free 4
    have d4 := P1.c8_4
    have k4 := P0.c8_4
    have g5 := P1.free 5
    have d5 := P1.c8_5
    have k5 := P0.c8_5
    have g6 := P1.free 6
    have d6 := P1.c8_6
    have k6 := P0.c8_6
    have g7 := P1.free 7
    have d7 := P1.c8_7
    have k7 := P0.c8_7
    go_wp2_with fail
    have lX : X3.heap.size = w4.heap.size := by rw [← hX3]; simp
    clear k0 k1 k2 k3 k4 k5 k6 k7 g0 g1 g2 g3 g4 g5 g6 g7 d0 d1 d2 d3 d4 d5 d6 d7
    obtain hz : Blk (put8 X3 (w.heap.size + 1) (.slice am' nm cm') (.int .i64 q) (.int .i64 bx) (.int .i64 cy) (.int .i64 lo) (.int .i64 hi) (.slice an' nn cn') (.slice al' nl cl')) _ _ _ := put8_blk P1 _ _ _ _ _ _ _ _
    have e0 := hz.c8_0
    have e1 := hz.c8_1
    have e2 := hz.c8_2
    have e3 := hz.c8_3
    have e4 := hz.c8_4
    have e5 := hz.c8_5
    have e6 := hz.c8_6
    have e7 := hz.c8_7
    unfold put8 at e0 e1 e2 e3 e4 e5 e6 e7
    have HO : ROwn (put8 X3 (w.heap.size + 1) (.slice am' nm cm') (.int .i64 q) (.int .i64 bx) (.int .i64 cy) (.int .i64 lo) (.int .i64 hi) (.slice an' nn cn') (.slice al' nl cl')) w.heap.size am' nm cm' zs an' nn cn' ps al' nl cl' qs :=
      ⟨own_base (put8_own HZ1.out (by omega) _ _ _ _ _ _ _ _) (by omega), own_base (put8_own HZ2.out (by omega) _ _ _ _ _ _ _ _) (by omega), own_base (put8_own HZ3.out (by omega) _ _ _ _ _ _ _ _) (by omega),
        fun p hp hq => by have := HL1.out p hp; have := (HL2.out p hq).1; omega, fun p hp hq => by have := HL1.out p hp; have := HL3.out p hq; omega, fun p hp hq => by have := (HL2.out p hp).2; have := HL3.out p hq; omega⟩
    exact bodyPost_ret (v := .tuple #[.agg #[.slice am' nm cm', .int .i64 q, .int .i64 bx, .int .i64 cy, .int .i64 lo, .int .i64 hi, .slice an' nn cn', .slice al' nl cl'], .bool true]) (by simp [results, Tryz.results68, go_sem, e0, e1, e2, e3, e4, e5, e6, e7]) rfl (AnsM.yes HN.out HA.out.lm HA.out.ln HA.out.ll HO (put8_below bZ (Nat.le_add_right _ _) _ _ _ _ _ _ _ _))
end Go.Proofs.YtdjjncofahnaaaaGreat
