/- Marks on rooms and regions that begin at any number. -/
import Derived.Test.YtdjjncofahnaaaaGreatKz
import Derived.Test.YtdjjncofahnaaaaGreatMn
namespace Go.Proofs.YtdjjncofahnaaaaGreat
open Go.RowKit
open Geo (H3)

def mkS (s : Int) (i : Nat) : H3 := ⟨3 * i + s, 3 * i + s + 1, 3 * i + s + 2⟩
def marksS (s : Int) (n : Nat) : List H3 := (List.range n).map (mkS s)
def markedS (s : Int) (k : Nat) (hs : List H3) : List H3 := marksS s k ++ hs.drop k
theorem markedS_zero (s : Int) (hs : List H3) : markedS s 0 hs = hs := by simp [markedS, marksS]
theorem markedS_step (s : Int) (k : Nat) (hs : List H3) (h : k < hs.length) : (markedS s k hs).set k (mkS s k) = markedS s (k + 1) hs := by
  unfold markedS marksS
  rw [List.set_append_right _ _ (by simp), List.drop_eq_getElem_cons h, List.range_succ]
  simp only [List.length_map, List.length_range, Nat.sub_self, List.set_cons_zero, List.map_append, List.map_cons, List.map_nil, List.append_assoc, List.cons_append, List.nil_append]
theorem markedS_all (s : Int) (n : Nat) (hs : List H3) (h : hs.length = n) : markedS s n hs = marksS s n := by
  unfold markedS; rw [List.drop_of_length_le (by omega)]; simp
theorem marksS_at (s : Int) (n k : Nat) (h : k < n) : (marksS s n)[k]? = some (mkS s k) := by simp [marksS, h]
def mkI (s : Int) (i : Nat) : Value := .int .i64 (i + s)
def marksI (s : Int) (n : Nat) : List Int := (List.range n).map (fun i : Nat => (i : Int) + s)
def markedI (s : Int) (k : Nat) (xs : List Value) : List Value := (marksI s k).map (Value.int .i64) ++ xs.drop k
theorem markedI_zero (s : Int) (xs : List Value) : markedI s 0 xs = xs := by simp [markedI, marksI]
theorem markedI_step (s : Int) (k : Nat) (xs : List Value) (h : k < xs.length) : (markedI s k xs).set k (mkI s k) = markedI s (k + 1) xs := by
  unfold markedI marksI mkI
  rw [List.set_append_right _ _ (by simp), List.drop_eq_getElem_cons h, List.range_succ]
  simp only [List.length_map, List.length_range, Nat.sub_self, List.set_cons_zero, List.map_append, List.map_cons, List.map_nil, List.append_assoc, List.cons_append, List.nil_append]
theorem markedI_all (s : Int) (n : Nat) (xs : List Value) (h : xs.length = n) : markedI s n xs = (marksI s n).map (Value.int .i64) := by
  unfold markedI; rw [List.drop_of_length_le (by omega)]; simp
theorem marksI_at (s : Int) (n k : Nat) (h : k < n) : (marksI s n)[k]? = some ((k : Int) + s) := by simp [marksI, h]
set_option maxHeartbeats 1600000 in
theorem mark_halves4 (v : Value) (n B : Nat) (hs : List H3) (s : Int) (w : World) (hn : n ≤ 4194000) (hs0 : 0 ≤ s) (hs1 : s ≤ 10000000) (hown : w.ownsRow B 39 3 v n (flat hs)) :
    Calls Tryz.prog 82 #[v, .int .i64 s] w fun e w' => e = .returned (.int .i64 (3 * n + s)) ∧ w'.ownsRow B 39 3 v n (flat (marksS s n)) ∧ w.grownBy w' v.ownBlock := by
  have HX := Lib.hid (own3_view hown).1
  obtain ⟨ao, cap, rfl⟩ := own_slice hown
  have HO := Lib.hid hown
  clear hown
  go_enter Tryz.func82, Tryz.ntmps82
  go_wp2
  go_loopw [1, 5] (fun x i wr => ∃ k : Nat, k ≤ n ∧ x = .int .i64 (3 * k + s) ∧ i = .int .i64 k ∧ wr.ownsRow B 39 3 (.slice ao n cap) n (flat (markedS s k hs)) ∧ w.grownBy wr (Value.slice ao n cap).ownBlock) (fun _ i _ => n - (intOf i).toNat)
  case atStart => exact ⟨0, Nat.zero_le _, by simp, rfl, by rw [markedS_zero]; exact HO.out, World.grownBy.refl _ _⟩
  case round =>
    obtain ⟨k, hk, rfl, rfl, ho, hbel⟩ := hrel
    have HW := Lib.hid ho
    by_cases hlt : k < n
    · obtain ⟨g, cap', e⟩ := own_row ho (by omega)
      simp only [Value.slice.injEq, true_and] at e
      obtain ⟨rfl, rfl⟩ := e
      have HS := Lib.hid (markedS_step s k hs (by rw [HX.out]; exact hlt))
      obtain ⟨z, _, t1, t2, t3, f1, f2, f3, _, hgl⟩ := own3_at ho hlt
      clear ho
      go_wp2
      go_roundw
      case rel =>
        have hp := own3_put HW.out k (mkS s k)
        rw [HS.out] at hp
        refine ⟨k + 1, by omega, by go_num, by go_num, ?_, ?_⟩
        · simpa [mkS, Int.add_assoc] using hp
        · exact grown_set (grown_set (grown_set hbel _ _) _ _) _ _
      case measure => simp [intOf]; omega
    · have : k = n := by omega
      subst this
      clear ho
      go_wp2
      go_ret
      exact ⟨rfl, by rw [← markedS_all s k hs HX.out]; exact HW.out, hbel⟩
theorem mark_region4 (v : Value) (n B : Nat) (hs : List H3) (s : Int) (w : World) (hn : n ≤ 4194000) (hs0 : 0 ≤ s) (hs1 : s ≤ 10000000) (hown : w.ownsRow B 39 3 v n (flat hs)) :
    Calls Tryz.prog 37 #[.agg #[v], .int .i64 s] w fun e w' => e = .returned (.int .i64 (3 * n + s)) ∧ w'.ownsRow B 39 3 v n (flat (marksS s n)) ∧ w.grownBy w' v.ownBlock := by
  obtain ⟨ao, cap, rfl⟩ := own_slice hown
  have HO := Lib.hid hown
  clear hown
  go_enter Tryz.func37, Tryz.ntmps37
  go_wp2_with fail
  refine (mark_halves4 _ n B hs s _ hn hs0 hs1 (own_below HO.out (below_one _ _))).mono ?_
  rintro e w1 ⟨rfl, ho, hb⟩
  have H1 := Lib.hid ho
  clear ho
  go_wp2
  go_ret
  exact ⟨rfl, H1.out, grown_new hb⟩
set_option maxHeartbeats 1600000 in
theorem mark_ints4 (v : Value) (n B : Nat) (ys : List Value) (s : Int) (w : World) (hn : n ≤ 1048576) (hs0 : 0 ≤ s) (hs1 : s ≤ 10000000) (hown : w.ownsRow B 3 1 v n ys) :
    Calls Tryz.prog 80 #[v, .int .i64 s] w fun e w' => e = .returned (.int .i64 (n + s)) ∧ w'.ownsRow B 3 1 v n ((marksI s n).map (Value.int .i64)) ∧ w.grownBy w' v.ownBlock := by
  have HX := Lib.hid hown.1
  obtain ⟨ao, cap, rfl⟩ := own_slice hown
  have HO := Lib.hid hown
  clear hown
  go_enter Tryz.func80, Tryz.ntmps80
  go_wp2
  go_loopw [1, 5] (fun x i wr => ∃ k : Nat, k ≤ n ∧ x = .int .i64 (k + s) ∧ i = .int .i64 k ∧ wr.ownsRow B 3 1 (.slice ao n cap) n (markedI s k ys) ∧ w.grownBy wr (Value.slice ao n cap).ownBlock) (fun _ i _ => n - (intOf i).toNat)
  case atStart => exact ⟨0, Nat.zero_le _, by simp, rfl, by rw [markedI_zero]; exact HO.out, World.grownBy.refl _ _⟩
  case round =>
    obtain ⟨k, hk, rfl, rfl, ho, hbel⟩ := hrel
    have HW := Lib.hid ho
    by_cases hlt : k < n
    · obtain ⟨g, cap', e⟩ := own_row ho (by omega)
      simp only [Value.slice.injEq, true_and] at e
      obtain ⟨rfl, rfl⟩ := e
      have HS := Lib.hid (markedI_step s k ys (by rw [HX.out]; omega))
      obtain ⟨⟨u, hc3, _⟩, hf, _, hgl⟩ := own_cell ho k hlt
      clear ho
      go_wp2
      go_roundw
      case rel =>
        have hp := own_setI HW.out k (mkI s k)
        rw [HS.out] at hp
        refine ⟨k + 1, by omega, by go_num, by go_num, ?_, ?_⟩
        · simpa [mkI] using hp
        · exact grown_set hbel _ _
      case measure => simp [intOf]; omega
    · have : k = n := by omega
      subst this
      clear ho
      go_wp2
      go_ret
      exact ⟨rfl, by rw [← markedI_all s k ys (by rw [HX.out]; omega)]; exact HW.out, hbel⟩
theorem held_halves4 (ao : Option Addr) (n cap : Nat) (s : Int) (w : World) (hn : n ≤ 4194000) (hs0 : 0 ≤ s) (hs1 : s ≤ 10000000) (hA : HsAt w ao (marksS s n)) :
    Calls Tryz.prog 83 #[.slice ao n cap, .int .i64 s] w fun e w' => e = .returned (.int .i64 (3 * n + s)) ∧ w = w' := by
  have HA := Lib.hid hA
  clear hA
  go_enter Tryz.func83, Tryz.ntmps83
  go_wp2
  go_loop [1, 5] (fun x i => ∃ k : Nat, k ≤ n ∧ x = .int .i64 (3 * k + s) ∧ i = .int .i64 k) (fun _ i => n - (intOf i).toNat)
  case atStart => exact ⟨0, Nat.zero_le _, by simp, rfl⟩
  case round =>
    obtain ⟨k, hk, rfl, rfl⟩ := hrel
    by_cases hlt : k < n
    · obtain ⟨g, o, rfl, t1, t2, t3⟩ := HA.out k _ (marksS_at s n k hlt)
      simp only [mkS] at t1 t2 t3
      have e2 : 3 * (k : Int) + s + 2 = 3 * (k : Int) + s + 1 + 1 := by omega
      rw [e2] at t3
      clear e2
      go_wp2
      go_round
      case rel => exact ⟨k + 1, by omega, by go_num, by go_num⟩
      case measure => simp [intOf]; omega
    · have : k = n := by omega
      subst this
      go_wp2
      go_ret
      exact ⟨rfl, rfl⟩
theorem held_region4 (ao : Option Addr) (n cap : Nat) (s : Int) (w : World) (hn : n ≤ 1048576) (hs0 : 0 ≤ s) (hs1 : s ≤ 10000000) (hA : HsAt w ao (marksS s n)) :
    Calls Tryz.prog 38 #[.agg #[.slice ao n cap], .int .i64 s] w fun e w' => e = .returned (.int .i64 (3 * n + s)) ∧ Below w.heap.size w w' := by
  have HA := Lib.hid hA
  clear hA
  have hk : ¬ (3 * (n : Int) + s < 0) := by omega
  go_enter Tryz.func38, Tryz.ntmps38
  go_wp2_with fail
  refine (held_halves4 _ n cap s _ (by omega) hs0 hs1 (HA.out.below (below_one _ _))).mono ?_
  rintro e w1 ⟨rfl, rfl⟩
  go_wp2
  go_ret
  exact ⟨rfl, below_one _ _⟩
/-- three rows are written, one after the other -/
def Gr3 (w w' : World) (r1 r2 r3 : Option Nat) : Prop := ∃ w1 w2, w.grownBy w1 r1 ∧ w1.grownBy w2 r2 ∧ w2.grownBy w' r3
theorem Gr3.below {w w' : World} {r1 r2 r3 : Option Nat} {B : Nat} (h : Gr3 w w' r1 r2 r3) (hB : B ≤ w.heap.size) (h1 : ∀ p, r1 = some p → B ≤ p) (h2 : ∀ p, r2 = some p → B ≤ p) (h3 : ∀ p, r3 = some p → B ≤ p) : Below B w w' := by
  obtain ⟨w1, w2, g1, g2, g3⟩ := h
  have b1 := (Below.refl B w).grown g1 hB h1
  have b2 := b1.grown g2 (Nat.le_trans hB g1.size) h2
  exact b2.grown g3 (Nat.le_trans hB (Nat.le_trans g1.size g2.size)) h3
theorem Gr3.own {w w' : World} {r1 r2 r3 : Option Nat} {B n s : Nat} {e : TypeId} {v : Value} {xs : List Value} (g : Gr3 w w' r1 r2 r3) (h : w.ownsRow B e s v n xs) (h1 : ∀ p, v.ownBlock = some p → some p ≠ r1) (h2 : ∀ p, v.ownBlock = some p → some p ≠ r2) (h3 : ∀ p, v.ownBlock = some p → some p ≠ r3) : w'.ownsRow B e s v n xs := by
  obtain ⟨w1, w2, g1, g2, g3⟩ := g
  exact own_grow (own_grow (own_grow h g1 h1) g2 h2) g3 h3
theorem Gr3.blk {w w' : World} {r1 r2 r3 : Option Nat} {B : Nat} {cs : Array Value} {t : TypeId} (g : Gr3 w w' r1 r2 r3) (h : Blk w B cs t) (h1 : some B ≠ r1) (h2 : some B ≠ r2) (h3 : some B ≠ r3) : Blk w' B cs t := by
  obtain ⟨w1, w2, g1, g2, g3⟩ := g
  have l0 := h.lt
  have k1 : Blk w1 B cs t := (g1.block B l0 h1).trans h
  have k2 : Blk w2 B cs t := (g2.block B k1.lt h2).trans k1
  exact (g3.block B k2.lt h3).trans k2
theorem grown_to {w w1 w2 : World} {row : Option Nat} (h : w.grownBy w1 row) (hb : Below w1.heap.size w1 w2) : w.grownBy w2 row := h.trans (by
  exact ⟨hb.os, hb.tape, hb.output, hb.size, fun k hk _ => hb.block k hk⟩)
set_option maxRecDepth 100000 in
set_option maxHeartbeats 1600000 in
theorem mark_room4 (am : Option Addr) (nm cm : Nat) (zs : List Int) (q bx cy lo hi : Int) (an : Option Addr) (nn cn : Nat) (ps : List H3) (al : Option Addr) (nl cl : Nat) (qs : List H3) (B : Nat) (s : Int) (w : World) (hle : nm + nn + nl ≤ 1048576) (hs0 : 0 ≤ s) (hs1 : s ≤ 1000000) (ho : ROwn w B am nm cm zs an nn cn ps al nl cl qs) :
    Calls Tryz.prog 32 #[.agg #[.slice am nm cm, .int .i64 q, .int .i64 bx, .int .i64 cy, .int .i64 lo, .int .i64 hi, .slice an nn cn, .slice al nl cl], .int .i64 s] w fun e w' => e = .returned (.int .i64 (3 * nl + (3 * nn + (nm + s)))) ∧ ROwn w' B am nm cm (marksI s nm) an nn cn (marksS (nm + s) nn) al nl cl (marksS (3 * nn + (nm + s)) nl) ∧ Gr3 w w' (Value.slice am nm cm).ownBlock (Value.slice an nn cn).ownBlock (Value.slice al nl cl).ownBlock := by
  have HO := Lib.hid ho
  clear ho
  go_enter Tryz.func32, Tryz.ntmps32
  have K0 := blk_new w #[.slice am nm cm, .int .i64 q, .int .i64 bx, .int .i64 cy, .int .i64 lo, .int .i64 hi, .slice an nn cn, .slice al nl cl] 28 rfl
  have HOM := Lib.hid (own_below HO.out.om (below_one w (.cells #[.slice am nm cm, .int .i64 q, .int .i64 bx, .int .i64 cy, .int .i64 lo, .int .i64 hi, .slice an nn cn, .slice al nl cl] 28)))
  have HON := Lib.hid (own_below HO.out.on (below_one w (.cells #[.slice am nm cm, .int .i64 q, .int .i64 bx, .int .i64 cy, .int .i64 lo, .int .i64 hi, .slice an nn cn, .slice al nl cl] 28)))
  have HOL := Lib.hid (own_below HO.out.ol (below_one w (.cells #[.slice am nm cm, .int .i64 q, .int .i64 bx, .int .i64 cy, .int .i64 lo, .int .i64 hi, .slice an nn cn, .slice al nl cl] 28)))
  have LM := Lib.hid (fun p (hp : (Value.slice am nm cm).ownBlock = some p) => (own_block_lt HO.out.om hp).2)
  have LN := Lib.hid (fun p (hp : (Value.slice an nn cn).ownBlock = some p) => (own_block_lt HO.out.on hp).2)
  have G0 := Lib.hid (World.grownBy_alloc w (.cells #[.slice am nm cm, .int .i64 q, .int .i64 bx, .int .i64 cy, .int .i64 lo, .int .i64 hi, .slice an nn cn, .slice al nl cl] 28) (Value.slice am nm cm).ownBlock)
  have k0 := K0.c8_0
  go_wp2_with fail
  generalize w.alloc (.cells #[.slice am nm cm, .int .i64 q, .int .i64 bx, .int .i64 cy, .int .i64 lo, .int .i64 hi, .slice an nn cn, .slice al nl cl] 28) = V at *
  clear k0
  refine (mark_ints4 _ nm B _ s V (by omega) hs0 (by omega) HOM.out).mono ?_
  rintro e w1 ⟨rfl, ho1, hg1⟩
  have HM1 := Lib.hid ho1
  have K1 : Blk w1 w.heap.size #[.slice am nm cm, .int .i64 q, .int .i64 bx, .int .i64 cy, .int .i64 lo, .int .i64 hi, .slice an nn cn, .slice al nl cl] 28 := (hg1.block w.heap.size K0.lt (fun h => by have := LM.out _ h.symm; omega)).trans K0
  have HN1 := Lib.hid (own_grow HON.out hg1 (fun p hp e => HO.out.d1 p e.symm hp))
  have HL1 := Lib.hid (own_grow HOL.out hg1 (fun p hp e => HO.out.d2 p e.symm hp))
  have G1 := Lib.hid (G0.out.trans hg1)
  clear ho1 hg1 K0 HOM HON HOL G0
  have k6 := K1.c8_6
  go_wp2_with fail
  clear k6
  refine (mark_region4 _ nn B _ (nm + s) w1 (by omega) (by omega) (by omega) HN1.out).mono ?_
  rintro e w2 ⟨rfl, ho2, hg2⟩
  have HN2 := Lib.hid ho2
  have K2 : Blk w2 w.heap.size #[.slice am nm cm, .int .i64 q, .int .i64 bx, .int .i64 cy, .int .i64 lo, .int .i64 hi, .slice an nn cn, .slice al nl cl] 28 := (hg2.block w.heap.size K1.lt (fun h => by have := LN.out _ h.symm; omega)).trans K1
  have HM2 := Lib.hid (own_grow HM1.out hg2 (fun p hp e => HO.out.d1 p hp e.symm))
  have HL2 := Lib.hid (own_grow HL1.out hg2 (fun p hp e => HO.out.d3 p e.symm hp))
  have G2 := Lib.hid hg2
  clear ho2 hg2 K1 HM1 HN1 HL1
  have k7 := K2.c8_7
  go_wp2_with fail
  clear k7
  refine (mark_region4 _ nl B _ (3 * nn + (nm + s)) w2 (by omega) (by omega) (by omega) HL2.out).mono ?_
  rintro e w3 ⟨rfl, ho3, hg3⟩
  have HF := Lib.hid (show ROwn w3 B am nm cm (marksI s nm) an nn cn (marksS (nm + s) nn) al nl cl (marksS (3 * nn + (nm + s)) nl) from ⟨own_grow HM2.out hg3 (fun p hp e => HO.out.d2 p hp e.symm), own_grow HN2.out hg3 (fun p hp e => HO.out.d3 p hp e.symm), ho3, HO.out.d1, HO.out.d2, HO.out.d3⟩)
  have G3 := Lib.hid (show Gr3 w w3 (Value.slice am nm cm).ownBlock (Value.slice an nn cn).ownBlock (Value.slice al nl cl).ownBlock from ⟨w1, w2, G1.out, G2.out, hg3⟩)
  clear ho3 hg3 HM2 HN2 HL2 K2 G1 G2
  go_wp2
  go_ret
  exact ⟨rfl, HF.out, G3.out⟩
end Go.Proofs.YtdjjncofahnaaaaGreat
