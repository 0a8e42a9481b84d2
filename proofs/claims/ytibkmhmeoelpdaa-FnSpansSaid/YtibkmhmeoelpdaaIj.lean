/- copy within a row of the call's own whose elements take several cells. The contracts of the program's nextEdge, sideAt (at spots that are not reduced) and areHalvesOk over the translation. The contract of the program's sidesOfCorners over the translation: for each edge the side of h on which its crossing with the next one lies. The contracts of slices.Contains at the sides, of sort.Search at the program's closure, and of insertByAngle over the translation. -/
import Derived.Test.YtibkmhmeoelpdaaRl
import Derived.Laws.CopyOwn
import Derived.Test.YtibkmhmeoelpdaaVs
import Derived.Deep.AppendLies
namespace Go.Proofs.Ytibkmhmeoelpdaa
open Go.RowKit
open Geo (H3)

theorem run_copyN {P : Program} (w : World) (dT sT ty elem : TypeId) (sz : Nat) (hu : P.underlying dT = some (.slice elem)) (hs : (P.info? elem).map (·.size) = some sz)
    (dp sp : Option Addr) (dLen dCap sLen sCap g off : Nat) (cur : Array Value) (t : TypeId) (hg : w.heap[g]? = some (.cells cur t (0, 0))) (m : Nat) (hm : Nat.min sLen dLen = m) (cs : List Value) (hn : cs.length = m * sz)
    (hpos : 0 < m → dp = some ⟨g, off, none⟩ ∧ ∃ ad, sp = some ad ∧ ∀ j v, cs[j]? = some v → w.cell? (ad.add j) = some v) (hfit : off + cs.length ≤ cur.size) (h1 : ∀ v ∈ cs, v.oneCell' = true) :
    (Builtin.copy_ #[dT, sT] ty #[.slice dp dLen dCap, .slice sp sLen sCap]).run P w = .ok (goInt m) (w.setRow g (cur.toList.take off ++ cs ++ cur.toList.drop (off + cs.length)).toArray) := by
  cases hq : P.info? elem with
  | none => simp [hq] at hs
  | some i =>
    have hi : i.size = sz := by simpa [hq] using hs
    have hsl : sLen.min dLen = m := hm
    rcases Nat.eq_zero_or_pos m with h0 | h0
    · subst h0
      have hc : cs = [] := List.eq_nil_of_length_eq_zero (by simpa using hn)
      subst hc
      have hself : w.setRow g (cur.toList.take off ++ [] ++ cur.toList.drop (off + ([] : List Value).length)).toArray = w := by
        simp only [List.append_nil, List.length_nil, Nat.add_zero, List.take_append_drop, Array.toArray_toList]
        exact setRow_self w g cur t (0, 0) hg
      rw [hself]
      cases dp <;> cases sp <;> simp [Builtin.copy_, run_underlying hu, Builtin.lenOf, Builtin.firstCells, sizeOf, typeInfo, hq, hsl, storeCells, loadCells, loadCellsFrom]
    · obtain ⟨rfl, ad, rfl, hsrc⟩ := hpos h0
      have hl := run_loadCells_list (P := P) w ad cs hsrc
      have hst := run_storeCells_at P g off t cs 0 cur w hg (by simpa using hfit) h1
      simp [Builtin.copy_, run_underlying hu, Builtin.lenOf, Builtin.firstCells, sizeOf, typeInfo, hq, hi, hsl, ← hn, hl, hst]
theorem step_copyN {P : Program} {ops : Array Oper} {o : Oper} {a : Act} {w : World} {K : Act → World → Prop} {Q : Exit → Act → World → Prop} {E : Prop} (hgd : o.guard = none) (d s : Operand) (dT sT : TypeId)
    (ho : o.op = .call { callee := .builtin .copy, args := #[d, s], argTypes := #[dT, sT] }) (elem : TypeId) (sz : Nat) (hu : P.underlying dT = some (.slice elem)) (hsz : (P.info? elem).map (·.size) = some sz)
    (dp sp : Option Addr) (dLen dCap sLen sCap : Nat) (hd : a.eval d = .slice dp dLen dCap) (hs : a.eval s = .slice sp sLen sCap)
    (g off : Nat) (cur : Array Value) (t : TypeId) (hg : w.heap[g]? = some (.cells cur t (0, 0))) (m : Nat) (hm : Nat.min sLen dLen = m) (cs : List Value) (hn : cs.length = m * sz)
    (hpos : 0 < m → dp = some ⟨g, off, none⟩ ∧ ∃ ad, sp = some ad ∧ ∀ j v, cs[j]? = some v → w.cell? (ad.add j) = some v) (hfit : off + cs.length ≤ cur.size) (h1 : ∀ v ∈ cs, v.oneCell' = true)
    (h : K (a.put o.dst (goInt m)) (w.setRow g (cur.toList.take off ++ (cs ++ cur.toList.drop (off + cs.length))).toArray)) :
    if Region.wanted o (yielded ops a.tmps) = true then Oper.wp P o a w K Q else E := by
  have hw : Region.wanted o (yielded ops a.tmps) = true := by simp [Region.wanted, hgd]
  rw [if_pos hw]
  have hrun := run_copyN (P := P) w dT sT o.type elem sz hu hsz dp sp dLen dCap sLen sCap g off cur t hg m hm cs hn hpos hfit h1
  unfold Oper.wp
  simp [execOp, ho, resolve, invoke, builtin, hd, hs, hrun, Result.andThen]
  exact h
theorem flat_drop (hs : List H3) (k : Nat) : flat (hs.drop k) = (flat hs).drop (k * 3) := by
  induction hs generalizing k with
  | nil => simp [flat]
  | cons h hs ih =>
    cases k with
    | zero => simp
    | succ k => rw [List.drop_succ_cons, ih, flat_cons, show (k + 1) * 3 = k * 3 + 1 + 1 + 1 by omega, List.drop_succ_cons, List.drop_succ_cons, List.drop_succ_cons]
/-- what is owned behind the tail's copy: element i is there twice -/
theorem own_shift {w : World} {B g n cap : Nat} {e : TypeId} {L : List H3} {cur : Array Value} {i r : Nat} (hr : r + (i + 1) = n) (hg : B ≤ g) (hh : w.heap[g]? = some (.cells cur e (0, 0))) (hc : n ≤ cap) (hm : cap ≤ maxLen) (hs : cur.size = cap * 3) (ht : cur.toList.take (n * 3) = flat L) (hl : L.length = n) :
    (w.setRow g (cur.toList.take ((i + 1) * 3) ++ (flat ((L.drop i).take r) ++ cur.toList.drop ((i + 1) * 3 + (flat ((L.drop i).take r)).length))).toArray).ownsRow B e 3 (.slice (some ⟨g, 0, none⟩) n cap) n (flat (L.take (i + 1) ++ (L.drop i).take r)) := by
  have hl2 : ((L.drop i).take r).length = r := by rw [List.length_take, List.length_drop]; omega
  have ht2 : flat (L.take (i + 1)) = cur.toList.take ((i + 1) * 3) := by rw [flat_take, ← ht, List.take_take, show min ((i + 1) * 3) (n * 3) = (i + 1) * 3 by omega]
  have hg2 := flat_len ((L.drop i).take r)
  rw [hl2] at hg2
  rw [flat_app, ht2]
  generalize flat ((L.drop i).take r) = G at *
  refine ⟨by rw [List.length_append, List.length_take, Array.length_toList, hg2]; omega, .inr ⟨g, cap, _, rfl, hg, setRow_heap w g cur _ e _ hh, hc, hm, ?_, ?_⟩⟩
  · simp only [List.size_toArray, List.length_append, List.length_take, List.length_drop, Array.length_toList, hg2]; omega
  · rw [List.toList_toArray, ← List.append_assoc]
    rw [List.take_append_of_le_length (by simp only [List.length_append, List.length_take, Array.length_toList, hg2]; omega)]
    exact List.take_of_length_le (by simp only [List.length_append, List.length_take, Array.length_toList, hg2]; omega)
/-- the cells of the tail -/
theorem tail_cells {w : World} {g n i m : Nat} {e : TypeId} {L : List H3} {cur : Array Value} (hh : w.heap[g]? = some (.cells cur e (0, 0))) (ht : cur.toList.take (n * 3) = flat L) :
    ∀ j v, (flat ((L.drop i).take m))[j]? = some v → w.cell? ((⟨g, i * 3, none⟩ : Addr).add j) = some v := by
  intro j v h
  rw [addr_add, cell_of_row w g (i * 3 + j) cur e (0, 0) hh]
  rw [flat_take, flat_drop, List.getElem?_take] at h
  split at h
  · rw [List.getElem?_drop, ← ht, List.getElem?_take] at h
    split at h
    · simpa using h
    · cases h
  · cases h
theorem flat_one (hs : List H3) : ∀ v ∈ flat hs, v.oneCell' = true := by
  intro v h
  unfold flat trip at h
  rw [List.mem_flatMap] at h
  obtain ⟨x, _, h⟩ := h
  simp at h
  rcases h with rfl | rfl | rfl <;> rfl

theorem ret_agg {a b c x y z : Int} (h : (⟨a, b, c⟩ : H3) = ⟨x, y, z⟩) : Ending.returned (.agg #[.int .i64 a, .int .i64 b, .int .i64 c]) = .returned (.agg #[.int .i64 x, .int .i64 y, .int .i64 z]) := by
  simp only [H3.mk.injEq] at h; rw [h.1, h.2.1, h.2.2]
set_option maxHeartbeats 800000 in
theorem next_edge (a : Option Addr) (n cap i : Nat) (hs : List H3) (x : H3) (w : World) (hi : i < n) (hn : n ≤ 4194304) (hx : hs[(i + 1) % n]? = some x) (hA : HsAt w a hs) :
    Calls Try.prog 115 #[.slice a n cap, .int .i64 i] w fun e w' => e = .returned (.agg #[.int .i64 x.a, .int .i64 x.b, .int .i64 x.c]) ∧ Below w.heap.size w w' := by
  obtain ⟨g, o, rfl, hc⟩ := hA _ _ hx
  obtain ⟨t1, t2, t3⟩ := hc.to (below_one w (.cells #[.int .i64 0, .int .i64 0, .int .i64 0] 60))
  have l1 := block_lt_of_cell hc.1
  simp only at l1
  clear hc hA hx
  have hm : (((i : Int) + 1) % (n : Int)) = (((i + 1) % n : Nat) : Int) := by simp
  have hlt : (i + 1) % n < n := Nat.mod_lt _ (by omega)
  generalize (i + 1) % n = j at *
  go_enter Try.func115, Try.ntmps115
  go_wp2_with fail
  exact bodyPost_ret (v := .agg #[.int .i64 x.a, .int .i64 x.b, .int .i64 x.c]) (by simp [results, Try.results115, go_sem]) rfl ⟨rfl, below_one _ _⟩
/-- the products at a crossing that is not reduced -/
theorem side_wide {a b c x y d : Int} (h : okH a b c = true) (x1 : -10000000000000 ≤ x) (x2 : x ≤ 10000000000000) (y1 : -10000000000000 ≤ y) (y2 : y ≤ 10000000000000) (d1 : -5000000000 ≤ d) (d2 : d ≤ 5000000000) : (-500000000000000000 ≤ a * x ∧ a * x ≤ 500000000000000000) ∧ (-500000000000000000 ≤ b * y ∧ b * y ≤ 500000000000000000) ∧ (-500000000000000000 ≤ c * d ∧ c * d ≤ 500000000000000000) := by
  obtain ⟨a1, a2, b1, b2, _, c1, c2, _⟩ := (okH_iff _ _ _).1 h
  have m1 := mul_in a x 50000 10000000000000 a1 a2 x1 x2
  have m2 := mul_in b y 50000 10000000000000 b1 b2 y1 y2
  have m3 := mul_in c d 100000000 5000000000 c1 c2 d1 d2
  omega
set_option maxHeartbeats 1600000 in
theorem impl_side_w (a b c x y d : Int) (w : World) (h : okH a b c = true) (x1 : -10000000000000 ≤ x) (x2 : x ≤ 10000000000000) (y1 : -10000000000000 ≤ y) (y2 : y ≤ 10000000000000) (d1 : -5000000000 ≤ d) (d2 : d ≤ 5000000000) :
    Calls Try.prog 116 #[.agg #[.int .i64 a, .int .i64 b, .int .i64 c], .agg #[.int .i64 x, .int .i64 y, .int .i64 d]] w fun e w' => e = .returned (.int .i64 (sideV a b c x y d)) ∧ Below w.heap.size w w' := by
  have hw := below_bx2 (below_box w (.cells #[.int .i64 a, .int .i64 b, .int .i64 c] 60)) (.cells #[.int .i64 x, .int .i64 y, .int .i64 d] 139)
  obtain ⟨⟨p0, p1⟩, ⟨q0, q1⟩, r0, r1⟩ := side_wide h x1 x2 y1 y2 d1 d2
  clear h x1 x2 y1 y2 d1 d2
  have hk : a * x + b * y < c * d ∨ a * x + b * y = c * d ∨ c * d < a * x + b * y := by omega
  rcases hk with hk | hk | hk
  all_goals
    first | rw [sideV_lt hk] | rw [sideV_eq hk] | rw [sideV_gt hk]
    generalize e1 : a * x = P at *
    generalize e2 : b * y = Q at *
    generalize e3 : c * d = R at *
    go_enter Try.func116, Try.ntmps116
    go_wp2_with fail
    go_quiet (fail)
    go_wp2_with fail
    go_ret
    exact ⟨rfl, below_drew hw _⟩
/-- valid half planes -/
def okB (h : H3) : Bool := okH h.a h.b h.c
theorem all_no {hs : List H3} {k : Nat} {x : H3} (h : hs[k]? = some x) (n : okB x = false) : hs.all okB = false := by
  rw [List.all_eq_false]; exact ⟨x, List.mem_of_getElem? h, by simp [n]⟩
theorem take_all {hs : List H3} {k : Nat} {x : H3} (h : hs[k]? = some x) (y : okB x = true) (t : (hs.take k).all okB = true) : (hs.take (k + 1)).all okB = true := by
  rw [List.take_add_one, h, List.all_append, t]; simp [y]
set_option maxHeartbeats 1600000 in
theorem are_ok (a : Option Addr) (n cap : Nat) (hs : List H3) (w : World) (hl : hs.length = n) (hn : n ≤ 4194304) (h64 : ∀ h ∈ hs, In64 h) (hA : HsAt w a hs) :
    Calls Try.prog 98 #[.slice a n cap] w fun e w' => e = .returned (.bool (hs.all okB)) ∧ Below w.heap.size w w' := by
  have HL := Lib.hid hl
  have HA := Lib.hid hA
  have H6 := Lib.hid h64
  clear hl hA h64
  go_enter Try.func98, Try.ntmps98
  go_wp2
  go_loopw [7] (fun i wr => ∃ k : Nat, k ≤ n ∧ i = .int .i64 k ∧ (hs.take k).all okB = true ∧ Below w.heap.size w wr) (fun i _ => n - (intOf i).toNat)
  case atStart => exact ⟨0, Nat.zero_le _, rfl, by simp, Below.refl _ _⟩
  case round =>
    obtain ⟨k, hk, rfl, ht, hbel⟩ := hrel
    have HT := Lib.hid ht
    clear ht
    by_cases hlt : k < n
    · obtain ⟨⟨xa, xb, xc⟩, hx⟩ : ∃ x, hs[k]? = some x := ⟨_, List.getElem?_eq_getElem (by rw [HL.out]; exact hlt)⟩
      obtain ⟨g, o, rfl, hc⟩ := HA.out k _ hx
      obtain ⟨t1, t2, t3⟩ := hc.to hbel
      obtain ⟨⟨a1, a2⟩, ⟨b1, b2⟩, c1, c2⟩ := H6.out _ (List.mem_of_getElem? hx)
      simp only at t1 t2 t3 a1 a2 b1 b2 c1 c2
      have HX := Lib.hid hx
      have HO := Lib.hid (fun W => impl_hok xa xb xc W a1 a2 b1 b2 c1 c2)
      clear hx hc a1 a2 b1 b2 c1 c2
      cases hk : okH xa xb xc with
      | true =>
        rw [hk] at HO
        have HY := Lib.hid (take_all HX.out hk HT.out)
        clear hk
        go_wp2_with (go_at_call 55; (with_reducible refine (HO.out _).mono ?_); rintro e w1 ⟨rfl, bl1⟩)
        go_roundw
        case rel => exact ⟨k + 1, by omega, by go_num, HY.out, below_to (below_bx2 hbel _) bl1⟩
        case measure => simp [intOf]; omega
      | false =>
        rw [hk] at HO
        have HY := Lib.hid (all_no HX.out hk)
        clear hk
        go_wp2_with (go_at_call 55; (with_reducible refine (HO.out _).mono ?_); rintro e w1 ⟨rfl, bl1⟩)
        go_ret
        exact ⟨ret_bool HY.out.symm, below_to (below_bx2 hbel _) bl1⟩
    · have hkn : k = n := by omega
      subst hkn
      have HY := Lib.hid (show hs.all okB = true by have := HT.out; rwa [List.take_of_length_le (by rw [HL.out]; omega)] at this)
      go_wp2
      go_ret
      exact ⟨ret_bool HY.out.symm, hbel⟩

/-- the side of h on which the crossing of two borders lies -/
def sgP (h : H3) (p : H3 × H3) : Int := sideV h.a h.b h.c (p.1.c * p.2.b - p.1.b * p.2.c) (p.1.a * p.2.c - p.1.c * p.2.a) (p.1.a * p.2.b - p.1.b * p.2.a)
def sideL (E : List H3) (h : H3) : List Int := (Geo.cyc E).map (sgP h)
def ints (zs : List Int) : List Value := zs.map (Value.int .i64)
theorem prs_at (l : List H3) (z : H3) (k : Nat) (x : H3) (h : l[k]? = some x) : (Geo.prs l z)[k]? = some (x, (l[k + 1]?).getD z) := by
  induction l generalizing k with
  | nil => simp at h
  | cons y l ih =>
    cases k with
    | zero => simp at h; subst h; cases l <;> simp [Geo.prs]
    | succ k => rw [List.getElem?_cons_succ] at h; simp only [Geo.prs, List.getElem?_cons_succ]; exact ih k h
theorem prs_len (l : List H3) (z : H3) : (Geo.prs l z).length = l.length := by
  have := congrArg List.length (Geo.prs_fst l z); simpa using this
theorem cyc_len (l : List H3) : (Geo.cyc l).length = l.length := prs_len _ _
theorem cyc_at {E : List H3} {n k : Nat} {x y : H3} (hl : E.length = n) (h : E[k]? = some x) (h2 : E[(k + 1) % n]? = some y) : (Geo.cyc E)[k]? = some (x, y) := by
  unfold Geo.cyc
  rw [prs_at _ _ _ _ h]
  have hk : k < n := by have := (List.getElem?_eq_some_iff.1 h).1; omega
  rcases Nat.lt_or_ge (k + 1) n with h3 | h3
  · rw [Nat.mod_eq_of_lt h3] at h2; rw [h2]; rfl
  · have : k + 1 = n := by omega
    rw [this, Nat.mod_self] at h2
    rw [List.getElem?_eq_none (by omega)]
    cases E with
    | nil => simp at h2
    | cons z E => simp at h2; subst h2; rfl
theorem sideL_at {E : List H3} {h : H3} {n k : Nat} {x y : H3} (hl : E.length = n) (h1 : E[k]? = some x) (h2 : E[(k + 1) % n]? = some y) : (sideL E h).take (k + 1) = (sideL E h).take k ++ [sgP h (x, y)] := by
  rw [List.take_add_one]
  unfold sideL
  rw [List.getElem?_map, cyc_at hl h1 h2]; rfl
theorem Try.info74 : (Try.prog.info? 128).map (fun i => (i.zero, i.size, i.bytes)) = some (some (.int .i64 0), 1, 8) := by kernel_rfl
/-- a slice of numbers of the call's own is handed back -/
def IntW (w : World) (e : TypeId) (zs : List Int) (n : Nat) (r : Ending) (w' : World) : Prop := ∃ ao cp, r = .returned (.slice ao n cp) ∧ w'.ownsRow w.heap.size e 1 (.slice ao n cp) n (ints zs) ∧ Below w.heap.size w w'
theorem nine {V X : World} {p q r : Nat} {a b c x y d u v t : Value} (hb : Below V.heap.size V X) (h1 : Tri V p 0 a b c) (h2 : Tri V q 0 x y d) (h3 : Tri V r 0 u v t) :
    X.cell? ⟨p, 0, none⟩ = some a ∧ X.cell? ⟨p, 1, none⟩ = some b ∧ X.cell? ⟨p, 2, none⟩ = some c ∧ X.cell? ⟨q, 0, none⟩ = some x ∧ X.cell? ⟨q, 1, none⟩ = some y ∧ X.cell? ⟨q, 2, none⟩ = some d ∧ X.cell? ⟨r, 0, none⟩ = some u ∧ X.cell? ⟨r, 1, none⟩ = some v ∧ X.cell? ⟨r, 2, none⟩ = some t :=
  ⟨(h1.to hb).1, (h1.to hb).2.1, (h1.to hb).2.2, (h2.to hb).1, (h2.to hb).2.1, (h2.to hb).2.2, (h3.to hb).1, (h3.to hb).2.1, (h3.to hb).2.2⟩
theorem tri_new (w : World) (a b c : Value) (T : TypeId) : Tri (w.alloc (.cells #[a, b, c] T)) w.heap.size 0 a b c := box3 w a b c T
theorem Tri.far {w w' : World} {row : Option Nat} {p o : Nat} {a b c : Value} (h : Tri w p o a b c) (hg : w.grownBy w' row) (hne : some p ≠ row) : Tri w' p o a b c :=
  ⟨by rw [hg.cell_far _ (block_lt_of_cell h.1) hne]; exact h.1, by rw [hg.cell_far _ (block_lt_of_cell h.2.1) hne]; exact h.2.1, by rw [hg.cell_far _ (block_lt_of_cell h.2.2) hne]; exact h.2.2⟩
set_option maxRecDepth 100000 in
set_option maxHeartbeats 4000000 in
theorem sides_of (a : Option Addr) (n cap : Nat) (E : List H3) (ha hb hc : Int) (w : World) (hl : E.length = n) (hn : n ≤ 1000) (hE : ∀ h ∈ E, okB h = true) (hh : okH ha hb hc = true) (hA : HsAt w a E) :
    Calls Try.prog 106 #[.slice a n cap, .agg #[.int .i64 ha, .int .i64 hb, .int .i64 hc]] w (IntW w 128 (sideL E ⟨ha, hb, hc⟩) n) := by
  obtain ⟨i0, hi, hz0, hz1, hz2⟩ := info_parts Try.info74
  have HL := Lib.hid hl
  have HA := Lib.hid hA
  have HE := Lib.hid hE
  have HH := Lib.hid hh
  clear hl hA hE hh
  go_enter Try.func106, Try.ntmps106
  go_wp2
  have hw := below_one w (.cells #[.int .i64 ha, .int .i64 hb, .int .i64 hc] 60)
  have q0 := tri_new w (.int .i64 ha) (.int .i64 hb) (.int .i64 hc) 60
  have hz : w.heap.size + 1 = (w.alloc (.cells #[.int .i64 ha, .int .i64 hb, .int .i64 hc] 60)).heap.size := by simp
  generalize w.alloc (.cells #[.int .i64 ha, .int .i64 hb, .int .i64 hc] 60) = V at *
  have HZ := Lib.hid hz
  clear hz
  go_loopw [5, 13] (fun v i wr => ∃ k : Nat, k ≤ n ∧ i = .int .i64 k ∧ wr.ownsRow V.heap.size 128 1 v k (ints ((sideL E ⟨ha, hb, hc⟩).take k)) ∧ Below V.heap.size V wr) (fun _ i _ => n - (intOf i).toNat)
  case atStart => exact ⟨0, Nat.zero_le _, rfl, ⟨by simp [ints], .inl ⟨rfl, rfl⟩⟩, Below.refl _ _⟩
  case round =>
    obtain ⟨k, hk, rfl, ho, hbel⟩ := hrel
    obtain ⟨av, cv, rfl⟩ := own_slice ho
    have H0 := Lib.hid ho
    clear ho
    by_cases hlt : k < n
    · obtain ⟨⟨xa, xb, xc⟩, hx⟩ : ∃ x, E[k]? = some x := ⟨_, List.getElem?_eq_getElem (by rw [HL.out]; exact hlt)⟩
      obtain ⟨⟨ya, yb, yc⟩, hy⟩ : ∃ x, E[(k + 1) % n]? = some x := ⟨_, List.getElem?_eq_getElem (by rw [HL.out]; exact Nat.mod_lt _ (by omega))⟩
      have kx : okH xa xb xc = true := HE.out _ (List.mem_of_getElem? hx)
      have ky : okH ya yb yc = true := HE.out _ (List.mem_of_getElem? hy)
      have hbw := below_to hw hbel
      have HN := Lib.hid (fun W (h : Below wr.heap.size wr W) => next_edge a n cap k E _ W hlt (by omega) hy (HA.out.below (below_to hbw h)))
      have HS := Lib.hid (sideL_at (h := ⟨ha, hb, hc⟩) HL.out hx hy)
      obtain ⟨g, o, rfl, hcx⟩ := HA.out k _ hx
      obtain ⟨t1, t2, t3⟩ := hcx.to hbw
      obtain ⟨⟨m0, m1⟩, ⟨n0, n1⟩, _, _⟩ := turn_in kx ky
      obtain ⟨⟨s0, s1⟩, ⟨r0, r1⟩, ⟨u0, u1⟩, ⟨v0, v1⟩⟩ := crs_in kx ky
      have HT := Lib.hid (fun W => impl_turn xa xb xc ya yb yc W kx ky)
      have HP := Lib.hid (fun W => impl_side_w ha hb hc (xc * yb - xb * yc) (xa * yc - xc * ya) (xa * yb - xb * ya) W HH.out (by omega) (by omega) (by omega) (by omega) (by omega) (by omega))
      rw [show sideV ha hb hc (xc * yb - xb * yc) (xa * yc - xc * ya) (xa * yb - xb * ya) = sgP ⟨ha, hb, hc⟩ (⟨xa, xb, xc⟩, ⟨ya, yb, yc⟩) from rfl] at HP
      simp only at t1 t2 t3 HN
      clear hx hy kx ky hcx
      generalize sgP ⟨ha, hb, hc⟩ (⟨xa, xb, xc⟩, ⟨ya, yb, yc⟩) = sv at *
      generalize e1 : xa * yb = p1 at *
      generalize e2 : xb * ya = p2 at *
      generalize e3 : xc * yb = p3 at *
      generalize e4 : xb * yc = p4 at *
      generalize e5 : xa * yc = p5 at *
      generalize e6 : xc * ya = p6 at *
      go_wp2_with (go_at_call 115; (with_reducible refine (HN.out _ (below_one _ _)).mono ?_); rintro e w1 ⟨rfl, bl1⟩)
      have d7 := ((tri_new wr (.int .i64 xa) (.int .i64 xb) (.int .i64 xc) 60).to bl1).to (below_one w1 (.cells #[.int .i64 ya, .int .i64 yb, .int .i64 yc] 60))
      have d8 := tri_new w1 (.int .i64 ya) (.int .i64 yb) (.int .i64 yc) 60
      have d3 := (((q0.to hbel).to (below_one wr (.cells #[.int .i64 xa, .int .i64 xb, .int .i64 xc] 60))).to bl1).to (below_one w1 (.cells #[.int .i64 ya, .int .i64 yb, .int .i64 yc] 60))
      have bX := below_to (below_to (below_one wr (.cells #[.int .i64 xa, .int .i64 xb, .int .i64 xc] 60)) bl1) (below_one w1 (.cells #[.int .i64 ya, .int .i64 yb, .int .i64 yc] 60))
      have H1 := Lib.hid (own_below H0.out bX)
      have hbX := hbel.trans (bX.mono hbel.size)
      have sz1 := bl1.size
      simp at sz1
      have far : ∀ p, (Value.slice av k cv).ownBlock = some p → p < wr.heap.size ∧ w.heap.size < p := by
        intro p hp
        rcases H0.out.2 with ⟨h1, _⟩ | ⟨g', cap', cur, h1, h2, h3, _⟩
        · rw [h1] at hp; simp [Value.ownBlock] at hp
        · rw [h1] at hp
          simp [Value.ownBlock] at hp
          subst hp
          exact ⟨lt_of_block h3, by have := HZ.out; omega⟩
      have n7 : some wr.heap.size ≠ (Value.slice av k cv).ownBlock := fun h => by have := far _ h.symm; omega
      have n8 : some w1.heap.size ≠ (Value.slice av k cv).ownBlock := fun h => by have := far _ h.symm; omega
      have n3 : some w.heap.size ≠ (Value.slice av k cv).ownBlock := fun h => by have := far _ h.symm; omega
      have HB := Lib.hid (show ∀ g, (Value.slice av k cv).ownBlock = some g → V.heap.size ≤ g from fun p hp => by have := (far p hp).2; have := HZ.out; omega)
      clear bX bl1 hbw t1 t2 t3 hbel far sz1
      generalize w1.alloc (.cells #[.int .i64 ya, .int .i64 yb, .int .i64 yc] 60) = X at *
      generalize wr.heap.size = b7 at *
      generalize w1.heap.size = b8 at *
      obtain ⟨c1, c2, c3, c4, c5, c6, c7, c8, c9⟩ := nine (Below.refl _ _) d7 d8 d3
      go_quiet (fail)
      clear c1 c2 c3 c4 c5 c6 c7 c8 c9
      have e7 : Tri (X.drewN nq) b7 0 _ _ _ := d7
      have e8 : Tri (X.drewN nq) b8 0 _ _ _ := d8
      have e3' : Tri (X.drewN nq) w.heap.size 0 _ _ _ := d3
      have H2 := Lib.hid (own_drewN H1.out nq)
      have hbY : Below V.heap.size V (X.drewN nq) := hbX.trans ((below_drewN X nq).mono hbX.size)
      clear d7 d8 d3 hbX H1 H0
      generalize X.drewN nq = Y at *
      go_wp2_with fail
      obtain ⟨c1, c2, c3, c4, c5, c6, c7, c8, c9⟩ := nine (Below.refl _ _) e7 e8 e3'
      go_region_held3 (fun w' => w'.cell? ⟨b7, 0, none⟩ = some (.int .i64 xa) ∧ w'.cell? ⟨b7, 1, none⟩ = some (.int .i64 xb) ∧ w'.cell? ⟨b7, 2, none⟩ = some (.int .i64 xc) ∧ w'.cell? ⟨b8, 0, none⟩ = some (.int .i64 ya) ∧ w'.cell? ⟨b8, 1, none⟩ = some (.int .i64 yb) ∧ w'.cell? ⟨b8, 2, none⟩ = some (.int .i64 yc) ∧ w'.cell? ⟨w.heap.size, 0, none⟩ = some (.int .i64 ha) ∧ w'.cell? ⟨w.heap.size, 1, none⟩ = some (.int .i64 hb) ∧ w'.cell? ⟨w.heap.size, 2, none⟩ = some (.int .i64 hc))
        (first | (refine nine ?_ e7 e8 e3'; (repeat (first | exact Below.refl _ _ | refine below_drw ?_ | refine below_bx2 ?_ _ | refine below_to ?_ (by assumption))); done) | (refine nine (Below.refl _ _) ((e7.to ?_).far hgrow n7) ((e8.to ?_).far hgrow n8) ((e3'.to ?_).far hgrow n3) <;> (repeat (first | exact Below.refl _ _ | refine below_drw ?_ | refine below_bx2 ?_ _ | refine below_to ?_ (by assumption))); done))
        (first | (go_at_call 117; (with_reducible refine (HT.out _).mono ?_); rintro e w2 ⟨rfl, bl2⟩) | (go_at_call 116; (with_reducible refine (HP.out _).mono ?_); rintro e w3 ⟨rfl, bl3⟩) | (refine step_append_lies _ (by rfl) _ _ _ (by rfl) V.heap.size 128 i0 _ 1 8 Try.underlying125 hi hz0 hz1 hz2 rfl (by omega) (.slice av k cv) k _ (by rfl) (own_below H2.out (below_to (below_to (below_to (below_drw (Below.refl _ _)) bl2) bl3) (below_one _ _))) ⟨w3.heap.size, 0, none⟩ 1 1 [.int .i64 sv] (by rfl) (by rfl) (World.news_of_block (cs := #[.int .i64 sv]) (t := 128) (fr := (0, 0)) (heap_alloc_new w3 _)) (by simp [Value.oneCell']) (by omega) (by unfold maxLen; omega) (by omega) (by have z1 := hbY.size; have z2 := bl2.size; have z3 := bl3.size; simp at z2 z3 ⊢; omega) _ rfl ?_; intro gg cap' w4 hown4 hgrow hat hlt4))
      have bZ : Below V.heap.size V (w3.alloc (.cells #[.int .i64 sv] 128)) := hbY.trans ((below_to (below_to (below_to (below_drw (Below.refl _ _)) bl2) bl3) (below_one _ _)).mono hbY.size)
      have b4 : Below V.heap.size V w4 := bZ.grown hgrow bZ.size (fun g hg => HB.out g hg)
      have H4 := Lib.hid hown4
      clear hown4 hgrow hat bZ bl2 bl3 c1 c2 c3 c4 c5 c6 c7 c8 c9 e7 e8 e3' hbY
      clear ‹w4.cell? _ = _ ∧ _›
      go_wp2
      go_roundw
      case rel => exact ⟨k + 1, by omega, by go_num, by rw [HS.out]; simpa [ints] using H4.out, b4⟩
      case measure => simp [intOf]; omega
    · have hkn : k = n := by omega
      subst hkn
      go_wp2
      go_ret
      refine ⟨av, cv, rfl, ?_, below_to hw hbel⟩
      have := H0.out
      rw [List.take_of_length_le (by simp [sideL, cyc_len, HL.out])] at this
      exact own_base this (by rw [← HZ.out]; omega)

/-- the cells of a slice of numbers -/
def IsAt (w : World) (ao : Option Addr) (zs : List Int) : Prop := ∀ (i : Nat) z, zs[i]? = some z → ∃ g o, ao = some ⟨g, o, none⟩ ∧ w.cell? ⟨g, o + i, none⟩ = some (.int .i64 z)
theorem IsAt.below {w w' : World} {ao : Option Addr} {zs : List Int} (h : IsAt w ao zs) (hb : Below w.heap.size w w') : IsAt w' ao zs := by
  intro i x hx
  obtain ⟨g, o, e, hc⟩ := h i x hx
  exact ⟨g, o, e, cell_to hc hb⟩
theorem own_is {w : World} {B n cp : Nat} {e : TypeId} {ao : Option Addr} {zs : List Int} (h : w.ownsRow B e 1 (.slice ao n cp) n (ints zs)) : zs.length = n ∧ IsAt w ao zs := by
  have hl : zs.length = n := by have := h.1; simpa [ints] using this
  refine ⟨hl, ?_⟩
  rcases h.2 with ⟨h1, rfl⟩ | ⟨g, cap, cur, h1, _⟩
  · intro i x hx; simp [List.length_eq_zero_iff.1 hl] at hx
  · intro i x hx
    simp at h1
    obtain ⟨rfl, rfl⟩ := h1
    refine ⟨g, 0, rfl, ?_⟩
    have := h.cells (g := g) rfl i (.int .i64 x) (by unfold ints; rw [List.getElem?_map, hx]; rfl)
    rw [addr_add] at this
    exact this
def hasI (zs : List Int) (x : Int) : Bool := decide (x ∈ zs)
def IdxR (zs : List Int) (x : Int) (w : World) (e : Ending) (w' : World) : Prop := ∃ r : Int, e = .returned (.int .i64 r) ∧ (0 ≤ r ↔ x ∈ zs) ∧ w = w'
theorem IdxR.yes {zs : List Int} {x : Int} {w : World} (k : Nat) (h : zs[k]? = some x) : IdxR zs x w (.returned (.int .i64 k)) w := ⟨k, rfl, by constructor <;> intro _ <;> first | exact List.mem_of_getElem? h | omega, rfl⟩
theorem IdxR.no {zs : List Int} {x : Int} {w : World} (h : x ∉ zs) : IdxR zs x w (.returned (.int .i64 (-1))) w := ⟨-1, rfl, by constructor <;> intro k <;> first | omega | exact absurd k h, rfl⟩
theorem not_take {zs : List Int} {x z : Int} {k : Nat} (h : x ∉ zs.take k) (hz : zs[k]? = some z) (hne : x ≠ z) : x ∉ zs.take (k + 1) := by
  rw [List.take_add_one, hz]; simp [h, hne]
set_option maxHeartbeats 800000 in
theorem index_side (a : Option Addr) (n cap : Nat) (zs : List Int) (x : Int) (w : World) (hl : zs.length = n) (hn : n ≤ 4194304) (hA : IsAt w a zs) :
    Calls Try.prog 118 #[.slice a n cap, .int .i64 x] w (IdxR zs x w) := by
  have HL := Lib.hid hl
  have HA := Lib.hid hA
  clear hl hA
  go_enter Try.func118, Try.ntmps118
  go_wp2
  go_loop [8] (fun i => ∃ k : Nat, k ≤ n ∧ i = .int .i64 k ∧ x ∉ zs.take k) (fun i => n - (intOf i).toNat)
  case atStart => exact ⟨0, Nat.zero_le _, rfl, by simp⟩
  case round =>
    obtain ⟨k, hk, rfl, ht⟩ := hrel
    have HT := Lib.hid ht
    clear ht
    by_cases hlt : k < n
    · obtain ⟨z, hz⟩ : ∃ z, zs[k]? = some z := ⟨_, List.getElem?_eq_getElem (by rw [HL.out]; exact hlt)⟩
      obtain ⟨g, o, rfl, hc⟩ := HA.out k _ hz
      have HZ := Lib.hid hz
      clear hz
      by_cases he : x = z
      · subst he
        go_wp2
        go_ret
        exact IdxR.yes k HZ.out
      · have hb := eq_b he
        have HN := Lib.hid (not_take HT.out HZ.out he)
        clear he
        go_wp2
        go_round
        case rel => exact ⟨k + 1, by omega, by go_num, HN.out⟩
        case measure => simp [intOf]; omega
    · have hkn : k = n := by omega
      subst hkn
      have HN := Lib.hid (show x ∉ zs by have := HT.out; rwa [List.take_of_length_le (by rw [HL.out]; omega)] at this)
      go_wp2
      go_ret
      exact IdxR.no HN.out
theorem has_side (a : Option Addr) (n cap : Nat) (zs : List Int) (x : Int) (w : World) (hl : zs.length = n) (hn : n ≤ 4194304) (hA : IsAt w a zs) :
    Calls Try.prog 107 #[.slice a n cap, .int .i64 x] w fun e w' => e = .returned (.bool (hasI zs x)) ∧ w = w' := by
  have HI := Lib.hid (index_side a n cap zs x w hl hn hA)
  clear hl hA
  go_enter Try.func107, Try.ntmps107
  go_wp2_with fail
  refine HI.out.mono ?_
  rintro e w1 ⟨r, rfl, hr, rfl⟩
  by_cases h : 0 ≤ r
  · have H := Lib.hid (show hasI zs x = true by unfold hasI; simpa using hr.1 h)
    clear hr
    go_wp2
    go_ret
    exact ⟨ret_bool (by rw [H.out]), rfl⟩
  · have H := Lib.hid (show hasI zs x = false by unfold hasI; simpa using fun k => h (hr.2 k))
    clear hr
    have hd : decide (0 ≤ r) = false := by simpa using h
    go_wp2
    go_ret
    exact ⟨ret_bool (by rw [H.out]), rfl⟩
theorem four_ {V X : World} {p q : Nat} {a b c d : Value} (h1 : Tri V p 0 a b c) (h2 : V.cell? ⟨q, 0, none⟩ = some d) (hb : Below V.heap.size V X) :
    X.cell? ⟨p, 0, none⟩ = some a ∧ X.cell? ⟨p, 1, none⟩ = some b ∧ X.cell? ⟨p, 2, none⟩ = some c ∧ X.cell? ⟨q, 0, none⟩ = some d := ⟨(h1.to hb).1, (h1.to hb).2.1, (h1.to hb).2.2, cell_to h2 hb⟩
theorem seven_ {V X : World} {p q g o : Nat} {a b c d x y z : Value} (h1 : Tri V p 0 a b c) (h2 : V.cell? ⟨q, 0, none⟩ = some d) (h3 : Tri V g o x y z) (hb : Below V.heap.size V X) :
    X.cell? ⟨p, 0, none⟩ = some a ∧ X.cell? ⟨p, 1, none⟩ = some b ∧ X.cell? ⟨p, 2, none⟩ = some c ∧ X.cell? ⟨q, 0, none⟩ = some d ∧ X.cell? ⟨g, o, none⟩ = some x ∧ X.cell? ⟨g, o + 1, none⟩ = some y ∧ X.cell? ⟨g, o + 2, none⟩ = some z := ⟨(h1.to hb).1, (h1.to hb).2.1, (h1.to hb).2.2, cell_to h2 hb, h3.to hb⟩
set_option maxHeartbeats 1600000 in
theorem closure_bef (p q n cp k : Nat) (ao : Option Addr) (ha hb hc xa xb xc : Int) (w : World) (hlt : k < n) (hh : okH ha hb hc = true) (hx : okH xa xb xc = true) (h1 : Tri w p 0 (.int .i64 ha) (.int .i64 hb) (.int .i64 hc)) (h2 : w.cell? ⟨q, 0, none⟩ = some (.slice ao n cp)) (g o : Nat) (e : ao = some ⟨g, o, none⟩) (h3 : Tri w g (o + k * 3) (.int .i64 xa) (.int .i64 xb) (.int .i64 xc)) :
    Calls Try.prog 120 #[.int .i64 k, .pointer (some ⟨p, 0, none⟩), .pointer (some ⟨q, 0, none⟩)] w fun e w' => e = .returned (.bool (befV ha hb xa xb)) ∧ Below w.heap.size w w' := by
  subst e
  have HB := Lib.hid (fun W => bef_call hh hx rfl W)
  generalize befV ha hb xa xb = r at *
  clear hh hx
  go_enter Try.func120, Try.ntmps120
  go_wp2
  obtain ⟨c1, c2, c3, c4, c5, c6, c7⟩ := seven_ h1 h2 h3 (Below.refl _ _)
  go_region_held3 (fun w' => w'.cell? ⟨p, 0, none⟩ = some (.int .i64 ha) ∧ w'.cell? ⟨p, 1, none⟩ = some (.int .i64 hb) ∧ w'.cell? ⟨p, 2, none⟩ = some (.int .i64 hc) ∧ w'.cell? ⟨q, 0, none⟩ = some (.slice (some ⟨g, o, none⟩) n cp) ∧ w'.cell? ⟨g, o + k * 3, none⟩ = some (.int .i64 xa) ∧ w'.cell? ⟨g, o + k * 3 + 1, none⟩ = some (.int .i64 xb) ∧ w'.cell? ⟨g, o + k * 3 + 2, none⟩ = some (.int .i64 xc))
    ((refine seven_ h1 h2 h3 ?_; repeat (first | exact Below.refl _ _ | refine below_drw ?_ | refine below_to ?_ (by assumption))))
    ((go_at_call 121; (with_reducible refine (HB.out _).mono ?_); rintro e w1 ⟨rfl, bl1⟩))
  all_goals
    go_wp2
    go_ret
    exact ⟨rfl, below_to (below_drw (Below.refl _ _)) bl1⟩
set_option maxHeartbeats 1600000 in
theorem search_bef (p q n cp : Nat) (ao : Option Addr) (KA KB : List H3) (ha hb hc : Int) (w : World) (hl : (KA ++ KB).length = n) (hn : n ≤ 1000) (hK : ∀ h ∈ KA ++ KB, okB h = true) (hh : okH ha hb hc = true)
    (hA : ∀ h ∈ KA, befV ha hb h.a h.b = false) (hB : ∀ h ∈ KB, befV ha hb h.a h.b = true) (h1 : Tri w p 0 (.int .i64 ha) (.int .i64 hb) (.int .i64 hc)) (h2 : w.cell? ⟨q, 0, none⟩ = some (.slice ao n cp)) (h3 : HsAt w ao (KA ++ KB)) :
    Calls Try.prog 119 #[.int .i64 n, .func (.func 120) #[] #[.pointer (some ⟨p, 0, none⟩), .pointer (some ⟨q, 0, none⟩)]] w fun e w' => e = .returned (.int .i64 KA.length) ∧ Below w.heap.size w w' := by
  have HC := Lib.hid (show ∀ (k : Nat) (W : World), k < n → Below w.heap.size w W → ∃ r, (r = true ↔ KA.length ≤ k) ∧ Calls Try.prog 120 #[.int .i64 k, .pointer (some ⟨p, 0, none⟩), .pointer (some ⟨q, 0, none⟩)] W fun e w' => e = .returned (.bool r) ∧ Below W.heap.size W w' from by
    intro k W hk hb'
    obtain ⟨x, hx⟩ : ∃ x, (KA ++ KB)[k]? = some x := ⟨_, List.getElem?_eq_getElem (by rw [hl]; exact hk)⟩
    obtain ⟨g, o, e, h3'⟩ := h3 k x hx
    refine ⟨_, ?_, closure_bef p q n cp k ao ha hb hc x.a x.b x.c W hk hh (hK x (List.mem_of_getElem? hx)) (h1.to hb') (cell_to h2 hb') g o e (h3'.to hb')⟩
    rcases Nat.lt_or_ge k KA.length with h | h
    · rw [List.getElem?_append_left h] at hx
      rw [hA x (List.mem_of_getElem? hx)]
      simp; omega
    · rw [List.getElem?_append_right h] at hx
      rw [hB x (List.mem_of_getElem? hx)]
      simp; omega)
  have hle : KA.length ≤ n := by rw [← hl]; simp
  clear hl hK hh hA hB h1 h2 h3
  generalize KA.length = m at *
  go_enter Try.func119, Try.ntmps119
  go_wp2
  go_loopw [5, 6] (fun i j wr => ∃ a b : Nat, a ≤ m ∧ m ≤ b ∧ b ≤ n ∧ i = .int .i64 a ∧ j = .int .i64 b ∧ Below w.heap.size w wr) (fun i j _ => (intOf j).toNat - (intOf i).toNat)
  case atStart => exact ⟨0, n, Nat.zero_le _, hle, Nat.le_refl _, rfl, rfl, Below.refl _ _⟩
  case round =>
    obtain ⟨a, b, h1, h2, h3, rfl, rfl, hbel⟩ := hrel
    by_cases hlt : a < b
    · obtain ⟨c, hc⟩ : ∃ c : Nat, ((a : Int) + (b : Int)) / 2 = c := ⟨(a + b) / 2, by omega⟩
      obtain ⟨r, hr, hcall⟩ := HC.out c wr (by omega) hbel
      have hc1 : a ≤ c := by omega
      have hc2 : c < b := by omega
      have H1 := Lib.hid hcall
      have H2 := Lib.hid hr
      clear hcall hr
      go_wp2_with fail
      refine H1.out.mono ?_
      rintro e w1 ⟨rfl, bl1⟩
      have b1 := below_to hbel bl1
      cases r with
      | true =>
        have h5 := H2.out.1 rfl
        clear hc H1 H2 bl1
        go_wp2
        go_roundw
        case rel => exact ⟨a, c, h1, h5, by omega, rfl, rfl, b1⟩
        case measure => simp [intOf]; omega
      | false =>
        have h5 : c < m := by
          rcases Nat.lt_or_ge c m with h | h
          · exact h
          · exact absurd (H2.out.2 h) (by simp)
        clear hc H1 H2 bl1
        go_wp2
        go_roundw
        case rel => exact ⟨c + 1, b, by omega, h2, h3, by go_num, rfl, b1⟩
        case measure => simp [intOf]; omega
    · have : a = m := by omega
      subst this
      go_wp2
      go_ret
      exact ⟨rfl, hbel⟩
end Go.Proofs.Ytibkmhmeoelpdaa
