/- The program's iterator over the corners of a region: the corners of a valid region, one after the other, each with its index. The program's IsCorner over the translation. -/
import Derived.RangeFuncNested
import Derived.RangeFuncBound
import Derived.RangeFuncCalls
import Derived.RangeFuncLeaves
import Derived.Shelf.Abstract
import Derived.Shelf.RegionOpen
import Derived.WalkKit
import Derived.OwnWalkIn
import Derived.TacticsInMore
import Derived.LoopNIn
import Derived.LoopIn
import Derived.Test.YtibkmhmeoelpdaaGreatCf
namespace Go.Proofs.YtibkmhmeoelpdaaGreat
open Go.RowKit Go.Shelf
open Geo (H3)

attribute [local go_sem] Oper.semAt_some

/-- a corner with its index: a valid spot -/
abbrev Cnr := { x : Nat × H3 // okS x.2.a x.2.b x.2.c = true ∧ x.1 < 41 }
noncomputable def cnrF (ps : List H3) (i : Nat) : Cnr := if h : okS (crA ps i).a (crA ps i).b (crA ps i).c = true ∧ i < 41 then ⟨(i, crA ps i), h⟩ else ⟨(0, ⟨0, 0, 1⟩), by decide⟩
noncomputable def cnrL (ps : List H3) (k : Nat) : List Cnr := (List.range k).map (cnrF ps)
theorem cnrL_next (ps : List H3) (k : Nat) : cnrL ps (k + 1) = cnrL ps k ++ [cnrF ps k] := by unfold cnrL; rw [List.range_succ]; simp
theorem cnrL_len (ps : List H3) (k : Nat) : (cnrL ps k).length = k := by simp [cnrL]
theorem cnrF_of {ps : List H3} (h : rokB ps = true) (n : ps ≠ []) {i : Nat} (hi : i < ps.length) : (cnrF ps i).1 = (i, crA ps i) := by
  unfold cnrF
  rw [dif_pos ⟨(cnr_facts h n hi).1, by have := rok_len h; omega⟩]
/-- how many corners come -/
def cntC (ps : List H3) : Nat := if rokB ps = true then ps.length else 0
/-- a block in memory -/
def Blk (W : World) (B : Nat) (cs : Array Value) (t : TypeId) : Prop := W.heap[B]? = some (.cells cs t (0, 0))
theorem Blk.lt {W : World} {B : Nat} {cs : Array Value} {t : TypeId} (h : Blk W B cs t) : B < W.heap.size := lt_of_block h
theorem Blk.to {W X : World} {B : Nat} {cs : Array Value} {t : TypeId} (h : Blk W B cs t) (hb : Below W.heap.size W X) : Blk X B cs t := (hb.block B h.lt).trans h
/-- what the rounds keep -/
def KpC (n₀ Bp : Nat) (W W' : World) : Prop := Below n₀ W W' ∧ W'.heap[Bp]? = W.heap[Bp]?
theorem KpC.t {n₀ Bp : Nat} {A B C : World} (h : KpC n₀ Bp A B) (k : KpC n₀ Bp B C) : KpC n₀ Bp A C := ⟨h.1.trans k.1, k.2.trans h.2⟩
theorem KpC.b {n₀ Bp : Nat} {w : World} (h1 : n₀ ≤ w.heap.size) (h2 : Bp < w.heap.size) (W : World) (l : Nat) (o o' : Obj) (hl : w.heap.size ≤ l) (h : W.heap[l]? = some o) (hc : o.isCells = false) (hw : o.isWalk = false) : KpC n₀ Bp W (W.putObj l o') :=
  ⟨belowK_b h1 W l o o' hl h hc hw, (grownBy_putObj' W l o').block Bp (by have := (Array.getElem?_eq_some_iff.1 h).1; omega) (fun e => by cases e; omega)⟩
theorem KpC.of {n₀ Bp : Nat} {W W' : World} (h : Below W.heap.size W W') (h1 : n₀ ≤ W.heap.size) (h2 : Bp < W.heap.size) : KpC n₀ Bp W W' := ⟨h.mono h1, h.block Bp h2⟩
theorem below_grown {W W' : World} (h : Below W.heap.size W W') : W.grownBy W' none := ⟨h.os, h.tape, h.output, h.size, fun k hk _ => h.block k hk⟩
theorem abide {β : Type} {B : Nat} {J : β → World → Prop} (hJ : AbidesFrom B J) {s : β} {W W' : World} (h : J s W) (hb : Below W.heap.size W W') : J s W' := hJ s W W' none h (below_grown hb) (fun r e => by cases e)
theorem grown_keeps {W W' : World} (h : Below W.heap.size W W') : KeepsOthers W W' := ⟨h.size, fun k _ hk _ => (h.block k (lt_of_block hk)).trans hk⟩
set_option maxRecDepth 100000 in
set_option maxHeartbeats 4000000 in
theorem cor_iter (m : Nat) (hm : 1 ≤ m) (l Bp n cap : Nat) (a : Option Addr) (ps : List H3) (w0 : World) (hl : ps.length = n) (hn : n ≤ 1048576) (h64 : ∀ h ∈ ps, In64 h) (hA : HsAt w0 a ps) (J Jx : List Cnr → World → Prop) (B0 : Nat) (hJ : AbidesFrom B0 J)
    (hY : ∀ pre (x : Cnr) W1, J pre W1 → pre.length < 41 → YieldAt Fence.wide (m - 1) Tryz.prog l #[.int .i64 (x.1.1 : Int), .agg #[.int .i64 x.1.2.a, .int .i64 x.1.2.b, .int .i64 x.1.2.c]] W1 fun e W' =>
      (e = .returned (.bool true) ∧ J (pre ++ [x]) W' ∧ KpC w0.heap.size Bp W1 W') ∨ (e = .returned (.bool false) ∧ Jx (pre ++ [x]) W'))
    (W : World) (hW : Below w0.heap.size w0 W) (hBp : Blk W Bp #[.slice a n cap] 40) (h0 : J [] W) :
    CallsIn Fence.wide m Tryz.prog 119 #[.func (.yield l) #[] #[], .pointer (some ⟨Bp, 0, none⟩)] W fun e W' => (∃ v, e = .returned v) ∧
      ((∃ ys, ys = cnrL ps (cntC ps) ∧ J ys W') ∨ (∃ pre, (∃ k, k ≤ cntC ps ∧ pre = cnrL ps k) ∧ Jx pre W')) := by
  have q0 : W.cell? ⟨Bp, 0, none⟩ = some (.slice a n cap) := cell_of_row _ _ 0 _ _ _ hBp
  have HR := Lib.hid (fun V (h : Below w0.heap.size w0 V) => impl_rok a n cap ps V hl hn h64 (hA.below h))
  have HL := Lib.hid hl
  have HA := Lib.hid hA
  have HY := Lib.hid hY
  have HJ := Lib.hid hJ
  clear hl hA h64 hY hJ
  refine callsIn_of_wp Tryz.func119 rfl trivial ?_ rfl
  simp only [Tryz.ntmps119, List.size_toArray, List.length_cons, List.length_nil, Nat.reduceAdd, Nat.reduceSub, Array.replicate_succ, Array.replicate_zero, List.push_toArray, List.append_toArray, List.nil_append, List.cons_append]
  gi_wp2_with fail
  refine ⟨trivial, (callsIn_wide.2 (HR.out _ hW)).mono ?_⟩
  rintro e w1 ⟨rfl, bl1⟩
  have b1 := below_to hW bl1
  have k1 := hBp.to bl1
  have j1 := abide HJ.out h0 bl1
  clear bl1 hW hBp q0 h0 HR
  have q1 : w1.cell? ⟨Bp, 0, none⟩ = some (.slice a n cap) := cell_of_row _ _ 0 _ _ _ k1
  cases hr : rokB ps with
  | false =>
    have HN := Lib.hid (show cntC ps = 0 by unfold cntC; rw [if_neg (by rw [hr]; simp)])
    clear hr
    gi_wp2
    refine bodyPost_ret (results_none rfl _ _ _) rfl ?_
    exact ⟨⟨_, rfl⟩, .inl ⟨[], by rw [HN.out]; rfl, j1⟩⟩
  | true =>
    have HN := Lib.hid (show cntC ps = n by unfold cntC; rw [if_pos hr, HL.out])
    have HQ := Lib.hid hr
    have HO := Lib.hid (rok_all hr)
    have h41 : n ≤ 40 := by have := rok_len hr; have := HL.out; omega
    clear hr
    gi_wp2
    gi_loopw [13] (fun i wr => ∃ k : Nat, k ≤ n ∧ i = .int .i64 k ∧ J (cnrL ps k) wr ∧ Below w0.heap.size w0 wr ∧ Blk wr Bp #[.slice a n cap] 40) (fun i _ => n - (intOf i).toNat)
    case atStart => exact ⟨0, Nat.zero_le _, rfl, j1, b1, k1⟩
    case round =>
      obtain ⟨k, hk, rfl, hJs, hbw, hBk⟩ := hrel
      have p3 : wr.cell? ⟨Bp, 0, none⟩ = some (.slice a n cap) := cell_of_row _ _ 0 _ _ _ hBk
      by_cases hlt : k < n
      · obtain ⟨⟨xa, xb, xc⟩, hx⟩ : ∃ x, ps[k]? = some x := ⟨_, List.getElem?_eq_getElem (by rw [HL.out]; exact hlt)⟩
        obtain ⟨⟨ya, yb, yc⟩, hy⟩ : ∃ y, ps[(k + 1) % n]? = some y := ⟨_, List.getElem?_eq_getElem (by rw [HL.out]; exact Nat.mod_lt _ (by omega))⟩
        have hne : ps ≠ [] := by rintro rfl; simp at hx
        have HF := Lib.hid (cnrF_of HQ.out hne (i := k) (by rw [HL.out]; exact hlt))
        have HP := Lib.hid (cnr_facts HQ.out hne (i := k) (by rw [HL.out]; exact hlt)).1
        have HC := Lib.hid (show crA ps k = crn ⟨xa, xb, xc⟩ ⟨ya, yb, yc⟩ by unfold crA; rw [HL.out, atI_of hx, atI_of hy])
        have HE := Lib.hid (fun W (h : Below w0.heap.size w0 W) => next_edge a n cap k ps ⟨ya, yb, yc⟩ W hlt (by omega) hy (HA.out.below h))
        obtain ⟨B, hB⟩ := crn_eq ⟨xa, xb, xc⟩ ⟨ya, yb, yc⟩
        have ox := HO.out _ (List.mem_of_getElem? hx)
        have oy := HO.out _ (List.mem_of_getElem? hy)
        have HD := Lib.hid (fun W => crs_call (a := xa) (b := xb) (c := xc) (x := ya) (y := yb) (d := yc) ox oy (show crsH xa xb xc ya yb yc = _ from (if_pos ⟨ox, oy⟩).trans hB) W)
        obtain ⟨g, o, rfl, hcx⟩ := HA.out k _ hx
        obtain ⟨t1, t2, t3⟩ := hcx.to hbw
        have l1 := block_lt_of_cell t1
        simp only at t1 t2 t3 l1
        rw [HC.out] at HF HP
        generalize crn ⟨xa, xb, xc⟩ ⟨ya, yb, yc⟩ = q at *
        obtain ⟨qa, qb, qc⟩ := q
        simp only at HD HE HP
        clear hx hy hB ox oy hcx HC
        gi_wp2_with fail
        have r7 := tri_new wr (.int .i64 xa) (.int .i64 xb) (.int .i64 xc) 104
        have bW := below_one wr (.cells #[.int .i64 xa, .int .i64 xb, .int .i64 xc] 104)
        have bXw := below_to hbw bW
        have p5 := cell_to p3 bW
        have k5 := hBk.to bW
        have j5 := abide HJ.out hJs bW
        clear t1 t2 t3 l1 p3 hBk hJs hbw bW
        generalize wr.alloc (.cells #[.int .i64 xa, .int .i64 xb, .int .i64 xc] 104) = X at *
        generalize wr.heap.size = b7 at *
        obtain ⟨s1, s2, s3⟩ := id r7
        refine wpIn_wide.2 ?_
        go_cut [5, 6] from 18 to 26 (fun s6 s7 wx => LiesT 45 X qa qb qc s6 wx ∧ s7 = .bool B)
        case first =>
          go_region_held3 (fun w' => w'.cell? ⟨Bp, 0, none⟩ = some (.slice (some ⟨g, o, none⟩) n cap) ∧ w'.cell? ⟨b7, 0, none⟩ = some (.int .i64 xa) ∧ w'.cell? ⟨b7, 1, none⟩ = some (.int .i64 xb) ∧ w'.cell? ⟨b7, 2, none⟩ = some (.int .i64 xc))
            ((refine fourc p5 s1 s2 s3 ?_; repeat (first | exact Below.refl _ _ | refine Below.setCell ?_ (by first | (simp; done) | (simp; omega)) _ | refine below_bx2 ?_ _ | refine below_drw ?_ | refine below_to ?_ (by assumption))))
            (first | (go_at_call 83; (with_reducible refine (HE.out _ ?_).mono ?_); (focus (repeat (first | exact bXw | refine below_bx2 ?_ _ | refine below_drw ?_ | refine below_to ?_ (by assumption)))); rintro e w4 ⟨rfl, bl4⟩; have hs4 := bl4.size; (try simp at hs4)) | (go_at_call 82; (with_reducible refine (HD.out _).mono ?_); rintro e w3 ⟨rfl, bl3⟩; obtain ⟨hc3, hf3⟩ := bcl3 bl3; obtain ⟨hc5, hf5⟩ := bcl3 (bl_next (Y := w3) bl4 (by refine below_to ?_ bl3; repeat (first | exact Below.refl _ _ | refine below_bx2 ?_ _ | refine below_drw ?_))); have hs3 := bl3.size; (try simp at hs3)))
          all_goals
            go_wp2_with fail
            go_meet
            refine ⟨⟨_, rfl, ?_, ?_, ?_⟩, rfl⟩
            · first | exact Nat.le_refl _ | omega | (simp; omega)
            · first
                | exact heap_alloc_new _ _
                | (refine heap_set3 (x := .int .i64 0) (y := .int .i64 0) (z := .int .i64 0) _ _ _ ?_
                   apply at_new3 (Z := .cells #[.int .i64 0, .int .i64 0, .int .i64 0] 45)
                   · repeat (first | exact Below.refl _ _ | refine below_bx2 ?_ _ | refine below_drw ?_ | refine below_to ?_ (by assumption))
                   · first | rfl | (simp; done))
            · repeat (first | exact Below.refl _ _ | refine Below.setCell ?_ (by first | (simp; done) | (simp; omega)) _ | refine below_bx2 ?_ _ | refine below_drw ?_ | refine below_to ?_ (by assumption))
        case rest =>
          obtain ⟨⟨g6, rfl, hg6, hh6, hb6⟩, rfl⟩ := hcut
          have b6 := below_to bXw hb6
          have k6 := k5.to hb6
          have j6 := abide HJ.out j5 hb6
          obtain ⟨v1, v2, v3⟩ : Tri wc g6 0 (.int .i64 qa) (.int .i64 qb) (.int .i64 qc) := ⟨cell_of_row _ _ _ _ _ _ hh6, cell_of_row _ _ _ _ _ _ hh6, cell_of_row _ _ _ _ _ _ hh6⟩
          clear hh6 hb6 bXw p5 k5 j5 s1 s2 s3 r7 HE HD
          obtain ⟨fn, tmps, assign, body, hyy, hR⟩ := HY.out _ ⟨(k, ⟨qa, qb, qc⟩), HP.out, by omega⟩ wc j6 (by rw [cnrL_len]; omega)
          dsimp only at hyy hR
          have HFF := Lib.hid (show cnrF ps k = ⟨(k, ⟨qa, qb, qc⟩), HP.out, by omega⟩ from Subtype.ext HF.out)
          rw [← HFF.out, ← cnrL_next] at hR
          clear HF HFF
          gi_wp2
          refine hR.mono ?_
          rintro e W3 (⟨rfl, hJ3, hk3⟩ | ⟨rfl, hJx3⟩)
          · gi_wp2
            go_roundw
            case rel => exact ⟨k + 1, by omega, by simp, hJ3, b6.trans hk3.1, hk3.2.trans k6⟩
            case measure => simp [intOf]; omega
          · gi_wp2
            refine bodyPost_ret (results_none rfl _ _ _) rfl ?_
            exact ⟨⟨_, rfl⟩, .inr ⟨_, ⟨k + 1, by rw [HN.out]; omega, rfl⟩, hJx3⟩⟩
      · obtain rfl : k = n := by omega
        gi_wp2
        go_end0
        exact ⟨⟨_, rfl⟩, .inl ⟨_, by rw [HN.out], hJs⟩⟩
/-- the iterator's maker -/
theorem cor_made (m : Nat) (a : Option Addr) (n cap : Nat) (w : World) :
    CallsIn Fence.wide m Tryz.prog 64 #[.agg #[.slice a n cap]] w fun e w' => e = .returned (.func (.func 119) #[] #[.pointer (some ⟨w.heap.size, 0, none⟩)]) ∧ w' = w.alloc (.cells #[.slice a n cap] 40) := by
  refine callsIn_of_wp Tryz.func64 rfl trivial ?_ rfl
  simp only [Tryz.ntmps64, List.size_toArray, List.length_cons, List.length_nil, Nat.reduceAdd, Nat.reduceSub, Array.replicate_succ, Array.replicate_zero, List.push_toArray, List.append_toArray, List.nil_append, List.cons_append]
  gi_wp2
  go_ret
  exact ⟨rfl, rfl⟩
theorem cor_stops (m : Nat) (hm : 1 ≤ m) (Bp n cap : Nat) (a : Option Addr) (ps : List H3) (w0 w : World) (hl : ps.length = n) (hn : n ≤ 1048576) (h64 : ∀ h ∈ ps, In64 h) (hA : HsAt w0 a ps) (hw : Below w0.heap.size w0 w) (hBp : Blk w Bp #[.slice a n cap] 40) :
    SeqStopsK Fence.wide m Tryz.prog 119 #[.pointer (some ⟨Bp, 0, none⟩)] (fun x : Cnr => #[Value.int .i64 (x.1.1 : Int), Value.agg #[.int .i64 x.1.2.a, .int .i64 x.1.2.b, .int .i64 x.1.2.c]]) (KpC w0.heap.size Bp) (fun ys => ys = cnrL ps (cntC ps))
      (fun pre => ∃ k, k ≤ cntC ps ∧ pre = cnrL ps k) 41 w := fun l J Jx W hW hJ _ hY h0 =>
  cor_iter m hm l Bp n cap a ps w0 hl hn h64 hA J Jx W.heap.size hJ hY W (below_to hw hW) (hBp.to hW) h0

attribute [local go_sem] Oper.semAt_some

theorem blk_own {β : Type} (B : Nat) (cs : Array Value) (t : TypeId) : Own (fun (_ : β) W => Blk W B cs t) := fun _ X Y row hs hg hrow =>
  (hg.block B hs.lt (fun e' => by obtain ⟨o, ho, hc⟩ := hrow B e'.symm; rw [show X.heap[B]? = _ from hs] at ho; cases ho; cases hc)).trans hs
theorem blk_new (W : World) (cs : Array Value) (t : TypeId) {b : Nat} (h : W.heap.size = b) : Blk (W.alloc (.cells cs t)) b cs t := by subst h; exact heap_alloc_new W _
theorem blk_far {W : World} {B : Nat} {cs : Array Value} {t : TypeId} (h : Blk W B cs t) {p : Addr} (u : Value) (hne : p.block ≠ B) : Blk (W.setCell p u) B cs t := (Below.heap_setCell W p u B (fun e => hne e.symm)).trans h
theorem blk_set {W : World} {B : Nat} {v : Value} {t : TypeId} (h : Blk W B #[v] t) (u : Value) : Blk (W.setCell ⟨B, 0, none⟩ u) B #[u] t := heap_setCell_same W B 0 _ t u h
theorem Blk.cell0 {W : World} {B : Nat} {cs : Array Value} {t : TypeId} {i : Nat} {v : Value} (h : Blk W B cs t) (k : cs[i]? = some v) : W.cell? ⟨B, i, none⟩ = some v := by
  simp [World.cell?, show W.heap[B]? = _ from h, k]
theorem Blk.free {W : World} {B : Nat} {cs : Array Value} {t : TypeId} (h : Blk W B cs t) (i : Nat) : W.frozen? ⟨B, i, none⟩ = false := frozen_of_row _ _ i _ _ h
theorem ownFrom_size {β : Type} (B N : Nat) : OwnFrom B (fun (_ : β) W => N ≤ W.heap.size) := fun _ _ _ _ hs hg _ => Nat.le_trans hs hg.size
theorem behind {w W : World} {D N : Nat} (hB : Below w.heap.size w W) (hK : W.heap[D]? = some (.deferred (some []))) (hD : N ≤ D) (hN : w.heap.size ≤ N) : Below w.heap.size w (W.putObj D (.deferred none)) := hB.trans (belowK_b (w := w) (Nat.le_refl _) W D _ _ (Nat.le_trans hN hD) hK rfl rfl)
theorem cnrF_pt {ps : List H3} {k : Nat} (h : k < cntC ps) : (cnrF ps k).1.2 = crA ps k ∧ rokB ps = true ∧ k < ps.length := by
  unfold cntC at h
  by_cases r : rokB ps = true
  · rw [if_pos r] at h
    have ne : ps ≠ [] := by rintro rfl; simp at h
    exact ⟨by rw [cnrF_of r ne h], r, h⟩
  · rw [if_neg r] at h; omega
theorem corR_mem {ps : List H3} {x : H3} : x ∈ corR ps ↔ ∃ k, k < cntC ps ∧ crA ps k = x := by
  unfold corR cntC
  split
  · unfold corL crA; simp
  · simp
end Go.Proofs.YtibkmhmeoelpdaaGreat
