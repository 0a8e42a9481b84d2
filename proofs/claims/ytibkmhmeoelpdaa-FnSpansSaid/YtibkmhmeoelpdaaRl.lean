/- Slices of triples of numbers in memory. The contracts of the laws' helpers on slices of half planes over the translation. The contracts of the laws' helpers on regions over the translation. A slice of triples that came in, and a struct that holds one: what a law's walk is told of it. -/
import Derived.Test.YtibkmhmeoelpdaaHq
import Derived.Test.YtibkmhmeoelpdaaGa
import Derived.ProofKit
import Derived.OpenShut
import Derived.Deep.Slices
import Derived.Deep.Fields
import Derived.Lib.SmallJoins
namespace Go.Proofs.Ytibkmhmeoelpdaa
open Go.RowKit
open Geo (H3)
open Go.ChangeShapes Go.WideShapes Go.ChangeAt Go.RowKit Go.Deep

/-- a triple at a place -/
def Tri (w : World) (g o : Nat) (a b c : Value) : Prop := w.cell? ⟨g, o, none⟩ = some a ∧ w.cell? ⟨g, o + 1, none⟩ = some b ∧ w.cell? ⟨g, o + 2, none⟩ = some c
theorem Tri.to {V X : World} {g o : Nat} {a b c : Value} (p : Tri V g o a b c) (hb : Below V.heap.size V X) : Tri X g o a b c :=
  ⟨by rw [hb.cell (block_lt_of_cell p.1)]; exact p.1, by rw [hb.cell (block_lt_of_cell p.2.1)]; exact p.2.1, by rw [hb.cell (block_lt_of_cell p.2.2)]; exact p.2.2⟩
theorem Tri.six {V X : World} {g o h u : Nat} {a b c x y d : Value} (hb : Below V.heap.size V X) (p : Tri V g o a b c) (q : Tri V h u x y d) :
    X.cell? ⟨g, o, none⟩ = some a ∧ X.cell? ⟨g, o + 1, none⟩ = some b ∧ X.cell? ⟨g, o + 2, none⟩ = some c ∧ X.cell? ⟨h, u, none⟩ = some x ∧ X.cell? ⟨h, u + 1, none⟩ = some y ∧ X.cell? ⟨h, u + 2, none⟩ = some d :=
  ⟨(p.to hb).1, (p.to hb).2.1, (p.to hb).2.2, q.to hb⟩
/-- the cells of a slice of triples -/
def HsAt (w : World) (ao : Option Addr) (hs : List H3) : Prop :=
  ∀ (i : Nat) h, hs[i]? = some h → ∃ g o, ao = some ⟨g, o, none⟩ ∧ Tri w g (o + i * 3) (.int .i64 h.a) (.int .i64 h.b) (.int .i64 h.c)
theorem HsAt.below {w w' : World} {ao : Option Addr} {hs : List H3} (h : HsAt w ao hs) (hb : Below w.heap.size w w') : HsAt w' ao hs := by
  intro i x hx
  obtain ⟨g, o, e, hc⟩ := h i x hx
  exact ⟨g, o, e, hc.to hb⟩
/-- the cells of triples -/
def trip (h : H3) : List Value := [.int .i64 h.a, .int .i64 h.b, .int .i64 h.c]
def flat (hs : List H3) : List Value := hs.flatMap trip
theorem flat_len (hs : List H3) : (flat hs).length = hs.length * 3 := by
  induction hs with
  | nil => rfl
  | cons h hs ih => simp only [flat, List.flatMap_cons, List.length_append, trip, List.length_cons, List.length_nil] at ih ⊢; omega
theorem flat_cons (h : H3) (hs : List H3) : flat (h :: hs) = .int .i64 h.a :: .int .i64 h.b :: .int .i64 h.c :: flat hs := rfl
theorem flat_app (hs ks : List H3) : flat (hs ++ ks) = flat hs ++ flat ks := by simp [flat]
theorem flat_take (hs : List H3) (k : Nat) : flat (hs.take k) = (flat hs).take (k * 3) := by
  induction hs generalizing k with
  | nil => simp [flat]
  | cons h hs ih =>
    cases k with
    | zero => simp [flat]
    | succ k => rw [List.take_succ_cons, flat_cons, flat_cons, ih, show (k + 1) * 3 = k * 3 + 1 + 1 + 1 by omega, List.take_succ_cons, List.take_succ_cons, List.take_succ_cons]
theorem flat_at {hs : List H3} {i : Nat} {h : H3} (k : hs[i]? = some h) : (flat hs)[i * 3]? = some (.int .i64 h.a) ∧ (flat hs)[i * 3 + 1]? = some (.int .i64 h.b) ∧ (flat hs)[i * 3 + 2]? = some (.int .i64 h.c) := by
  induction hs generalizing i with
  | nil => simp at k
  | cons x hs ih =>
    rw [flat_cons]
    cases i with
    | zero => simp at k; subst k; simp
    | succ i =>
      rw [List.getElem?_cons_succ] at k
      have := ih k
      rw [show (i + 1) * 3 = i * 3 + 1 + 1 + 1 by omega]
      simpa using this
theorem flat_set (hs : List H3) (i : Nat) (h : H3) : flat (hs.set i h) = (((flat hs).set (i * 3) (.int .i64 h.a)).set (i * 3 + 1) (.int .i64 h.b)).set (i * 3 + 2) (.int .i64 h.c) := by
  induction hs generalizing i with
  | nil => simp [flat]
  | cons x hs ih =>
    cases i with
    | zero => simp [flat_cons]
    | succ i =>
      rw [List.set_cons_succ, flat_cons, flat_cons, ih, show (i + 1) * 3 = i * 3 + 1 + 1 + 1 by omega]
      simp
theorem flat_inj {hs ks : List H3} (h : flat hs = flat ks) : hs = ks := by
  induction hs generalizing ks with
  | nil =>
    cases ks with
    | nil => rfl
    | cons k ks => rw [flat_cons] at h; cases h
  | cons x hs ih =>
    cases ks with
    | nil => rw [flat_cons] at h; cases h
    | cons k ks =>
      rw [flat_cons, flat_cons] at h
      simp only [List.cons.injEq, Value.int.injEq, true_and] at h
      obtain ⟨a, b, c, d⟩ := h
      rw [ih d]
      cases x; cases k; simp only at a b c; subst a b c; rfl
theorem addr_add (g o i : Nat) : (⟨g, o, none⟩ : Addr).add i = ⟨g, o + i, none⟩ := by unfold Addr.add; split <;> simp_all
/-- what owning a row of triples says -/
theorem own3_view {w : World} {B n : Nat} {e : TypeId} {v : Value} {hs : List H3} (h : w.ownsRow B e 3 v n (flat hs)) :
    hs.length = n ∧ ∃ ao cap, v = .slice ao n cap ∧ HsAt w ao hs := by
  have hl : hs.length = n := by have := h.1; rw [flat_len] at this; omega
  refine ⟨hl, ?_⟩
  rcases h.2 with ⟨rfl, rfl⟩ | ⟨g, cap, cur, rfl, _⟩
  · refine ⟨none, 0, rfl, ?_⟩
    intro i x hx
    simp [List.length_eq_zero_iff.1 hl] at hx
  · refine ⟨some ⟨g, 0, none⟩, cap, rfl, ?_⟩
    intro i x hx
    obtain ⟨f1, f2, f3⟩ := flat_at hx
    refine ⟨g, 0, rfl, ?_, ?_, ?_⟩
    · have := h.cells (g := g) rfl _ _ f1; rw [addr_add] at this; simpa using this
    · have := h.cells (g := g) rfl _ _ f2; rw [addr_add] at this; simpa [Nat.add_assoc] using this
    · have := h.cells (g := g) rfl _ _ f3; rw [addr_add] at this; simpa [Nat.add_assoc] using this
theorem own3_none {w : World} {B : Nat} {e : TypeId} : w.ownsRow B e 3 (.slice none 0 0) 0 (flat []) := ⟨by simp [flat], .inl ⟨rfl, rfl⟩⟩
/-- a cell of an owned row may be written -/
theorem own_free {w : World} {B g n cap s : Nat} {e : TypeId} {xs : List Value} (h : w.ownsRow B e s (.slice (some ⟨g, 0, none⟩) n cap) n xs) (i : Nat) : w.frozen? ⟨g, i, none⟩ = false ∧ B ≤ g ∧ g < w.heap.size := by
  rcases h.2 with ⟨h2, _⟩ | ⟨g', cap', cur, hv, hg, hh, hn, _, hs, ht⟩
  · simp at h2
  · simp at hv
    obtain ⟨rfl, rfl⟩ := hv
    exact ⟨frozen_of_row w g i cur e hh, hg, lt_of_block hh⟩
theorem own_put {w : World} {B g n cap s : Nat} {e : TypeId} {xs : List Value} (h : w.ownsRow B e s (.slice (some ⟨g, 0, none⟩) n cap) n xs) (i : Nat) (u : Value) :
    (w.setCell ⟨g, i, none⟩ u).ownsRow B e s (.slice (some ⟨g, 0, none⟩) n cap) n (xs.set i u) := by
  refine ⟨by rw [List.length_set]; exact h.1, ?_⟩
  rcases h.2 with ⟨h2, _⟩ | ⟨g', cap', cur, hv, hg, hh, hn, hm, hs, ht⟩
  · simp at h2
  · simp at hv
    obtain ⟨rfl, rfl⟩ := hv
    refine .inr ⟨g, cap, cur.setIfInBounds i u, rfl, hg, ?_, hn, hm, by simpa using hs, ?_⟩
    · have hlt := lt_of_block hh
      have h' : w.heap[g] = .cells cur e (0, 0) := by simpa [Array.getElem?_eq_getElem hlt] using hh
      show (w.heap.modify g _)[g]? = _
      rw [Array.getElem?_eq_getElem (by simpa using hlt), Array.getElem_modify_self, h']
      rfl
    · rw [← ht]
      simp [List.take_set]
theorem own3_put {w : World} {B g n cap : Nat} {e : TypeId} {hs : List H3} (h : w.ownsRow B e 3 (.slice (some ⟨g, 0, none⟩) n cap) n (flat hs)) (i : Nat) (x : H3) :
    (((w.setCell ⟨g, i * 3, none⟩ (.int .i64 x.a)).setCell ⟨g, i * 3 + 1, none⟩ (.int .i64 x.b)).setCell ⟨g, i * 3 + 2, none⟩ (.int .i64 x.c)).ownsRow B e 3 (.slice (some ⟨g, 0, none⟩) n cap) n (flat (hs.set i x)) := by
  rw [flat_set]
  exact own_put (own_put (own_put h _ _) _ _) _ _
theorem own_row {w : World} {B n s : Nat} {e : TypeId} {v : Value} {xs : List Value} (h : w.ownsRow B e s v n xs) (hn : 0 < n) : ∃ g cap, v = .slice (some ⟨g, 0, none⟩) n cap := by
  rcases h.2 with ⟨_, h3⟩ | ⟨g, cap, cur, hv, _⟩
  · omega
  · exact ⟨g, cap, hv⟩
theorem own_slice {w : World} {B n s : Nat} {e : TypeId} {v : Value} {xs : List Value} (h : w.ownsRow B e s v n xs) : ∃ ao cap, v = .slice ao n cap := by
  rcases h.2 with ⟨rfl, rfl⟩ | ⟨g, cap, cur, hv, _⟩
  · exact ⟨none, 0, rfl⟩
  · exact ⟨_, cap, hv⟩
/-- an element of an owned row: what it holds, that it may be written -/
theorem own3_at {w : World} {B g n cap : Nat} {e : TypeId} {hs : List H3} (h : w.ownsRow B e 3 (.slice (some ⟨g, 0, none⟩) n cap) n (flat hs)) {i : Nat} (hi : i < n) :
    ∃ x, hs[i]? = some x ∧ w.cell? ⟨g, i * 3, none⟩ = some (.int .i64 x.a) ∧ w.cell? ⟨g, i * 3 + 1, none⟩ = some (.int .i64 x.b) ∧ w.cell? ⟨g, i * 3 + 2, none⟩ = some (.int .i64 x.c) ∧
      w.frozen? ⟨g, i * 3, none⟩ = false ∧ w.frozen? ⟨g, i * 3 + 1, none⟩ = false ∧ w.frozen? ⟨g, i * 3 + 2, none⟩ = false ∧ B ≤ g ∧ g < w.heap.size := by
  obtain ⟨hl, ao, cap', e, hat⟩ := own3_view h
  simp only [Value.slice.injEq, true_and] at e
  obtain ⟨rfl, rfl⟩ := e
  obtain ⟨x, hx⟩ : ∃ x, hs[i]? = some x := ⟨_, List.getElem?_eq_getElem (by rw [hl]; exact hi)⟩
  obtain ⟨g', o', e, t1, t2, t3⟩ := hat i x hx
  simp only [Option.some.injEq, Addr.mk.injEq, and_true] at e
  obtain ⟨rfl, rfl⟩ := e
  rw [Nat.zero_add] at t1 t2 t3
  exact ⟨x, hx, t1, t2, t3, (own_free h _).1, (own_free h _).1, (own_free h _).1, (own_free h 0).2.1, (own_free h 0).2.2⟩

set_option maxHeartbeats 1600000 in
theorem eq_halves (a b : Option Addr) (n ca cb : Nat) (xs : List H3) (w : World) (hl : xs.length = n) (hn : n ≤ 4194304) (hA : HsAt w a xs) (hB : HsAt w b xs) :
    Calls Try.prog 83 #[.slice a n ca, .slice b n cb] w fun e w' => e = .returned (.bool true) ∧ Below w.heap.size w w' := by
  have HL := Lib.hid hl
  have HA := Lib.hid hA
  have HB := Lib.hid hB
  clear hl hA hB
  go_enter Try.func83, Try.ntmps83
  go_wp2
  go_loopw [5] (fun i wr => ∃ k : Nat, k ≤ n ∧ i = .int .i64 k ∧ Below w.heap.size w wr) (fun i _ => n - (intOf i).toNat)
  case atStart => exact ⟨0, Nat.zero_le _, rfl, Below.refl _ _⟩
  case round =>
    obtain ⟨k, hk, rfl, hbel⟩ := hrel
    by_cases hlt : k < n
    · obtain ⟨⟨xa, xb, xc⟩, hx⟩ : ∃ x, xs[k]? = some x := ⟨_, List.getElem?_eq_getElem (by rw [HL.out]; exact hlt)⟩
      obtain ⟨g, o, rfl, hc⟩ := HA.out k _ hx
      obtain ⟨g2, o2, rfl, hc2⟩ := HB.out k _ hx
      have hp := hc.to hbel
      have hq := hc2.to hbel
      simp only at hp hq
      clear hx hc hc2
      go_wp2
      obtain ⟨q1, q2, q3, q4, q5, q6⟩ := Tri.six (Below.refl _ _) hp hq
      go_region_held3 (fun w' => w'.cell? ⟨g, o + k * 3, none⟩ = some (.int .i64 xa) ∧ w'.cell? ⟨g, o + k * 3 + 1, none⟩ = some (.int .i64 xb) ∧ w'.cell? ⟨g, o + k * 3 + 2, none⟩ = some (.int .i64 xc) ∧ w'.cell? ⟨g2, o2 + k * 3, none⟩ = some (.int .i64 xa) ∧ w'.cell? ⟨g2, o2 + k * 3 + 1, none⟩ = some (.int .i64 xb) ∧ w'.cell? ⟨g2, o2 + k * 3 + 2, none⟩ = some (.int .i64 xc))
        ((refine Tri.six ?_ hp hq; repeat (first | exact Below.refl _ _ | refine below_drw ?_ | refine below_to ?_ (by assumption))))
        ((go_at_call 93; (with_reducible refine (eq_half _ _ _ _).mono ?_); rintro e w1 ⟨rfl, bl1⟩))
      all_goals go_wp2
      go_roundw
      case rel => exact ⟨k + 1, by omega, by go_num, below_to hbel (below_to (below_drw (Below.refl _ _)) bl1)⟩
      case measure => simp [intOf]; omega
    · go_wp2
      go_ret
      exact ⟨rfl, hbel⟩

/-- the marks -/
def mkH (i : Nat) : H3 := ⟨3 * i + 1, 3 * i + 2, 3 * i + 3⟩
def marksH (n : Nat) : List H3 := (List.range n).map mkH
def markedH (k : Nat) (hs : List H3) : List H3 := marksH k ++ hs.drop k
theorem markedH_zero (hs : List H3) : markedH 0 hs = hs := by simp [markedH, marksH]
theorem markedH_step (k : Nat) (hs : List H3) (h : k < hs.length) : (markedH k hs).set k (mkH k) = markedH (k + 1) hs := by
  unfold markedH marksH
  rw [List.set_append_right _ _ (by simp), List.drop_eq_getElem_cons h, List.range_succ]
  simp only [List.length_map, List.length_range, Nat.sub_self, List.set_cons_zero, List.map_append, List.map_cons, List.map_nil, List.append_assoc, List.cons_append, List.nil_append]
theorem markedH_all (n : Nat) (hs : List H3) (h : hs.length = n) : markedH n hs = marksH n := by
  unfold markedH; rw [List.drop_of_length_le (by omega)]; simp
theorem marksH_at (n k : Nat) (h : k < n) : (marksH n)[k]? = some (mkH k) := by simp [marksH, h]
theorem marksH_len (n : Nat) : (marksH n).length = n := by simp [marksH]
/-- writing into an owned row changes nothing below it -/
theorem below_row {w w' : World} {B g o : Nat} (h : Below B w w') (hg : B ≤ g) (u : Value) : Below B w (w'.setCell ⟨g, o, none⟩ u) := h.setCell hg u
theorem sz_halves (a : Option Addr) (n cap : Nat) (w : World) (hn : n ≤ maxLen) (s : Int) (hs : 0 ≤ s) (hs2 : s ≤ 1048576) (r : Int) (hr : r = if (n : Int) ≤ s then s - n else -1) :
    Calls Try.prog 72 #[.slice a n cap, .int .i64 s] w fun e w' => e = .returned (.int .i64 r) ∧ w = w' := by
  unfold maxLen at hn
  by_cases h : (n : Int) ≤ s
  · rw [if_pos h] at hr
    subst hr
    go_enter Try.func72, Try.ntmps72
    go_wp2
    go_ret
    exact ⟨rfl, rfl⟩
  · rw [if_neg h] at hr
    subst hr
    go_enter Try.func72, Try.ntmps72
    go_wp2
    go_ret
    exact ⟨rfl, rfl⟩
theorem Try.info34 : (Try.prog.info? 60).map (fun i => (i.zero, i.size, i.bytes)) = some (some (.agg #[.int .i64 0, .int .i64 0, .int .i64 0]), 3, 24) := by kernel_rfl
/-- a new row of triples is handed back -/
def GivesH (w : World) (hs : List H3) (e : Ending) (w' : World) : Prop := ∃ v, e = .returned v ∧ w'.ownsRow w.heap.size 60 3 v hs.length (flat hs) ∧ Below w.heap.size w w'
theorem GivesH.mk' {w w' : World} {hs : List H3} {v : Value} {n : Nat} {ys : List Value} (h : w'.ownsRow w.heap.size 60 3 v n ys) (hn : n = hs.length) (hy : ys = flat hs) (hb : Below w.heap.size w w') : GivesH w hs (.returned v) w' := by
  subst hn; subst hy; exact ⟨v, rfl, h, hb⟩
def zeroH : H3 := ⟨0, 0, 0⟩
theorem made3 (n : Nat) : (madeCells (#[.int .i64 0, .int .i64 0, .int .i64 0] : Array Value) (n * 3)).toList = flat (List.replicate n zeroH) := by
  induction n with
  | zero => simp [madeCells, flat]
  | succ n ih =>
    unfold madeCells at ih ⊢
    have e : (n + 1) * 3 = n * 3 + 1 + 1 + 1 := by omega
    rw [List.replicate_succ', flat_app, ← ih, e, Array.range_succ, Array.range_succ, Array.range_succ]
    simp [flat, trip, zeroH, show (n * 3 + 1) % 3 = 1 by omega, show (n * 3 + 2) % 3 = 2 by omega]
set_option maxHeartbeats 1600000 in
theorem to_halves (a : Option Addr) (n cap : Nat) (hs : List H3) (w : World) (hl : hs.length = n) (hn : n ≤ 1048576) (hA : HsAt w a hs) :
    Calls Try.prog 76 #[.slice a n cap] w (GivesH w hs) := by
  obtain ⟨i0, hi, hz0, hz1, hz2⟩ := info_parts Try.info34
  have HL := Lib.hid hl
  have HA := Lib.hid hA
  clear hl hA
  go_enter Try.func76, Try.ntmps76
  go_wp2_with (at_make; refine wpList_make_full _ rfl _ _ 54 rfl w.heap.size 60 i0 (.agg #[.int .i64 0, .int .i64 0, .int .i64 0]) 3 Try.underlying54 hi hz0 hz1 .i64 .i64 _ _ n rfl rfl rfl rfl (by rw [hz2]; omega) (by unfold maxLen; omega) (Nat.le_refl _) ?_)
  intro w1 hown hgrow
  have hb1 : Below w.heap.size w w1 := (Below.refl _ _).grown hgrow (Nat.le_refl _) (fun g hg => by cases hg)
  rw [made3] at hown
  have HO := Lib.hid hown
  clear hown hgrow
  go_wp2
  go_loopw [4] (fun i wr => ∃ (k : Nat) (ys : List H3), k ≤ n ∧ i = .int .i64 k ∧ ys.length = n ∧ ys.take k = hs.take k ∧ wr.ownsRow w.heap.size 60 3 (.slice (some ⟨w.heap.size, 0, none⟩) n n) n (flat ys) ∧ Below w.heap.size w wr) (fun i _ => n - (intOf i).toNat)
  case atStart => exact ⟨0, List.replicate n zeroH, Nat.zero_le _, rfl, by simp, by simp, HO.out, hb1⟩
  case round =>
    obtain ⟨k, ys, hk, rfl, hyl, hyt, ho, hbel⟩ := hrel
    have H1 := Lib.hid hyl
    have H2 := Lib.hid hyt
    have H3 := Lib.hid ho
    clear hyl hyt ho
    by_cases hlt : k < n
    · obtain ⟨⟨xa, xb, xc⟩, hx⟩ : ∃ x, hs[k]? = some x := ⟨_, List.getElem?_eq_getElem (by rw [HL.out]; exact hlt)⟩
      obtain ⟨g, o, rfl, hc⟩ := HA.out k _ hx
      obtain ⟨t1, t2, t3⟩ := hc.to hbel
      simp only at t1 t2 t3
      have H5 := Lib.hid hx
      clear hc hx
      go_wp2_with (go_at_call 27; (with_reducible refine (to_half _ _ _ _).mono ?_); rintro e w1 ⟨rfl, bl1⟩; have H4 := Lib.hid (own_below H3.out bl1); obtain ⟨y, _, c1, c2, c3, f1, f2, f3, _, hgl⟩ := own3_at H4.out hlt)
      go_roundw
      case rel =>
        refine ⟨k + 1, ys.set k ⟨xa, xb, xc⟩, by omega, by go_num, by rw [List.length_set]; exact H1.out, ?_, ?_, ?_⟩
        · rw [List.take_add_one, List.take_add_one, H5.out, List.getElem?_set_self (by rw [H1.out]; exact hlt), List.take_set_of_le (Nat.le_refl _), H2.out]
        · exact own3_put H4.out k ⟨xa, xb, xc⟩
        · exact below_row (below_row (below_row (hbel.trans (bl1.mono hbel.size)) (Nat.le_refl _) _) (Nat.le_refl _) _) (Nat.le_refl _) _
      case measure => simp [intOf]; omega
    · have hkn : k = n := by omega
      subst hkn
      go_wp2
      go_ret
      exact GivesH.mk' H3.out HL.out.symm (by
        have := H2.out
        rw [List.take_of_length_le (by rw [H1.out]; omega), List.take_of_length_le (by rw [HL.out]; omega)] at this
        rw [this]) hbel

theorem below_one (w : World) (o : Obj) : Below w.heap.size w (w.alloc o) := (Below.refl _ _).alloc (Nat.le_refl _) _
theorem sz_region (a : Option Addr) (n cap : Nat) (w : World) (hn : n ≤ maxLen) (s : Int) (hs : 0 ≤ s) (hs2 : s ≤ 1048576) (r : Int) (hr : r = if (n : Int) ≤ s then s - n else -1) :
    Calls Try.prog 50 #[.agg #[.slice a n cap], .int .i64 s] w fun e w' => e = .returned (.int .i64 r) ∧ Below w.heap.size w w' := by
  have HR := Lib.hid hr
  have h3 : r < 0 ∨ 0 ≤ r := by omega
  have h4 : r < 0 → r = -1 := by intro h; by_cases k : (n : Int) ≤ s <;> simp [k] at hr <;> omega
  clear hr
  rcases h3 with h3 | h3
  · obtain rfl := h4 h3
    clear h4
    go_enter Try.func50, Try.ntmps50
    go_wp2_with (go_at_call 72; (with_reducible refine (sz_halves _ _ _ _ hn _ hs hs2 _ HR.out).mono ?_); rintro e w1 ⟨rfl, rfl⟩)
    go_ret
    exact ⟨rfl, below_one _ _⟩
  · clear h4
    go_enter Try.func50, Try.ntmps50
    go_wp2_with (go_at_call 72; (with_reducible refine (sz_halves _ _ _ _ hn _ hs hs2 _ HR.out).mono ?_); rintro e w1 ⟨rfl, rfl⟩)
    go_ret
    exact ⟨rfl, below_one _ _⟩
theorem bcellr {W w1 : World} (hb : Below W.heap.size W w1) : (∀ b o, b < W.heap.size → w1.cell? ⟨b, o, none⟩ = W.cell? ⟨b, o, none⟩) ∧ (∀ b o, b < W.heap.size → w1.frozen? ⟨b, o, none⟩ = W.frozen? ⟨b, o, none⟩) :=
  ⟨fun b o h => hb.cell (p := ⟨b, o, none⟩) h, fun b o h => hb.frozen (p := ⟨b, o, none⟩) h⟩
/-- a new region is handed back -/
def GivesR (w : World) (hs : List H3) (e : Ending) (w' : World) : Prop := ∃ v, e = .returned (.agg #[v]) ∧ w'.ownsRow w.heap.size 60 3 v hs.length (flat hs) ∧ Below w.heap.size w w'
theorem own_base {w : World} {B B' n s : Nat} {e : TypeId} {v : Value} {xs : List Value} (h : w.ownsRow B e s v n xs) (hB : B' ≤ B) : w.ownsRow B' e s v n xs := by
  refine ⟨h.1, ?_⟩
  rcases h.2 with h2 | ⟨g, cap, cur, hv, hg, r⟩
  · exact .inl h2
  · exact .inr ⟨g, cap, cur, hv, by omega, r⟩
theorem own_far {w : World} {B n s : Nat} {e : TypeId} {v : Value} {xs : List Value} (h : w.ownsRow B e s v n xs) {p : Addr} (hp : p.block < B) (u : Value) : (w.setCell p u).ownsRow B e s v n xs := by
  refine ⟨h.1, ?_⟩
  rcases h.2 with h2 | ⟨g, cap, cur, hv, hg, hh, r⟩
  · exact .inl h2
  · exact .inr ⟨g, cap, cur, hv, hg, (Below.heap_setCell w p u g (by omega)).trans hh, r⟩
set_option maxHeartbeats 1600000 in
theorem to_region (a : Option Addr) (n cap : Nat) (hs : List H3) (w : World) (hl : hs.length = n) (hn : n ≤ 1048576) (hA : HsAt w a hs) :
    Calls Try.prog 54 #[.agg #[.slice a n cap]] w (GivesR w hs) := by
  have HL := Lib.hid hl
  have HA := Lib.hid hA
  clear hl hA
  go_enter Try.func54, Try.ntmps54
  go_wp2_with fail
  refine (to_halves a n cap hs _ HL.out hn (HA.out.below ?_)).mono ?_
  · exact below_bx2 (below_bx2 (below_one _ _) _) _
  rintro e w1 ⟨v, rfl, ho, bl1⟩
  obtain ⟨ao, cp, rfl⟩ := own_slice ho
  have HO := Lib.hid ho
  have hz := bl1.size
  simp at hz
  have HB := Lib.hid bl1
  obtain ⟨hc1, hf1⟩ := bcellr bl1
  clear ho bl1
  generalize hs.length = m at *
  go_wp2
  refine bodyPost_ret (v := .agg #[.slice ao m cp]) (by simp [results, Try.results54, go_sem, hc1]) rfl ?_
  refine ⟨_, rfl, ?_, ?_⟩
  · have h1 : hs.length = m := (own3_view HO.out).1
    rw [h1]
    exact own_base (own_far (own_far HO.out (by simp) _) (by simp) _) (by simp; omega)
  · exact ((below_to (below_bx2 (below_bx2 (below_one _ _) _) _) HB.out).setCell (by simp; omega) _).setCell (by simp) _
set_option maxHeartbeats 1600000 in
theorem eq_region (a b : Option Addr) (n ca cb : Nat) (xs : List H3) (w : World) (hl : xs.length = n) (hn : n ≤ 4194304) (hA : HsAt w a xs) (hB : HsAt w b xs) :
    Calls Try.prog 60 #[.agg #[.slice a n ca], .agg #[.slice b n cb]] w fun e w' => e = .returned (.bool true) ∧ Below w.heap.size w w' := by
  have HL := Lib.hid hl
  have HA := Lib.hid hA
  have HB := Lib.hid hB
  clear hl hA hB
  go_enter Try.func60, Try.ntmps60
  go_wp2_with fail
  refine (eq_halves a b n ca cb xs _ HL.out hn (HA.out.below (below_bx2 (below_one _ _) _)) (HB.out.below (below_bx2 (below_one _ _) _))).mono ?_
  rintro e w1 ⟨rfl, bl1⟩
  go_wp2
  go_ret
  exact ⟨rfl, below_to (below_bx2 (below_one _ _) _) bl1⟩
/-- three numbers of 64 bits -/
def In64 (h : H3) : Prop := (-9223372036854775808 ≤ h.a ∧ h.a ≤ 9223372036854775807) ∧ (-9223372036854775808 ≤ h.b ∧ h.b ≤ 9223372036854775807) ∧ (-9223372036854775808 ≤ h.c ∧ h.c ≤ 9223372036854775807)
theorem open_triples {H : Type} {enc : TypeId × Value → H} {P : Program} {W : World} {base : Nat} {t e : TypeId} {f0 f1 f2 : Field} {held : Bool} {a : Option Addr} {len cap fuel : Nat} {x : DataW H × List MemPlace}
    (ht : P.underlying t = some (.slice e)) (he : P.underlying e = some (.struct #[f0, f1, f2])) (hone : oneCellFields P #[f0, f1, f2] = true) (hC : P.cellsOf e = 3)
    (t0 : P.underlying f0.type = some (.int .i64)) (t1 : P.underlying f1.type = some (.int .i64)) (t2 : P.underlying f2.type = some (.int .i64))
    (h : DataW.trod enc P W base (fun _ => true) held fuel t [.slice a len cap] = some x) : ∃ hs : List H3, hs.length = len ∧ len ≤ maxLen ∧ (∀ h ∈ hs, In64 h) ∧ HsAt W a hs := by
  rcases open_slice ht h with ⟨h0, _⟩ | ⟨ad, len', cap', m, n, D, Pl, hcs, hb, hl, hm, hmm, hx, hi⟩
  · simp at h0
    obtain ⟨rfl, rfl, rfl⟩ := h0
    exact ⟨[], rfl, Nat.zero_le _, by simp, fun i x hx => by simp at hx⟩
  · simp at hcs
    obtain ⟨rfl, rfl, rfl⟩ := hcs
    simp only [if_true] at hmm
    subst hmm
    have key : ∀ i, i < len → ∃ p : H3, In64 p ∧ W.cell? (ad.add (i * 3)) = some (.int .i64 p.a) ∧ W.cell? (ad.add (i * 3 + 1)) = some (.int .i64 p.b) ∧ W.cell? (ad.add (i * 3 + 2)) = some (.int .i64 p.c) := by
      intro i hil
      obtain ⟨cs, hc, hd⟩ := hi i (by omega)
      rw [hC] at hc
      obtain ⟨_, hcl, hat⟩ := World.cells?_some hc
      obtain ⟨ys, n', _, _, _, hyl, hf⟩ := DataW.trod_struct he hd
      match cs, hcl with
      | [c0, c1, c2], _ =>
        match ys, hyl with
        | [y0, y1, y2], _ =>
          obtain ⟨o0, k0⟩ := hone_of hone 0 f0 rfl
          obtain ⟨o1, k1⟩ := hone_of hone 1 f1 rfl
          obtain ⟨o2, k2⟩ := hone_of hone 2 f2 rfl
          have g0 := hf 0 f0 rfl
          have g1 := hf 1 f1 rfl
          have g2 := hf 2 f2 rfl
          rw [o0, k0] at g0
          rw [o1, k1] at g1
          rw [o2, k2] at g2
          obtain ⟨z0, e0, _, w0⟩ := DataW.trod_int t0 g0
          obtain ⟨z1, e1, _, w1⟩ := DataW.trod_int t1 g1
          obtain ⟨z2, e2, _, w2⟩ := DataW.trod_int t2 g2
          simp at e0 e1 e2
          subst e0 e1 e2
          refine ⟨⟨z0, z1, z2⟩, ⟨bounds_i64 w0, bounds_i64 w1, bounds_i64 w2⟩, ?_, ?_, ?_⟩
          · have := hat 0 (by omega); simpa [Go.Deep.add_add] using this
          · have := hat 1 (by omega); rw [Go.Deep.add_add] at this; simpa using this
          · have := hat 2 (by omega); rw [Go.Deep.add_add] at this; simpa using this
    have key2 : ∀ k, k ≤ len → ∃ hs : List H3, hs.length = k ∧ (∀ h ∈ hs, In64 h) ∧ ∀ i p, hs[i]? = some p → W.cell? (ad.add (i * 3)) = some (.int .i64 p.a) ∧ W.cell? (ad.add (i * 3 + 1)) = some (.int .i64 p.b) ∧ W.cell? (ad.add (i * 3 + 2)) = some (.int .i64 p.c) := by
      intro k
      induction k with
      | zero => intro _; exact ⟨[], rfl, by simp, by simp⟩
      | succ k ih =>
        intro hk
        obtain ⟨hs, hl, hin, hat⟩ := ih (by omega)
        obtain ⟨p, hp, hc⟩ := key k (by omega)
        refine ⟨hs ++ [p], by simp [hl], ?_, ?_⟩
        · intro q hq
          simp only [List.mem_append, List.mem_singleton] at hq
          rcases hq with hq | rfl
          · exact hin q hq
          · exact hp
        · intro i q hq
          rcases Nat.lt_or_ge i k with hik | hik
          · rw [List.getElem?_append_left (by omega)] at hq
            exact hat i q hq
          · rw [List.getElem?_append_right (by omega)] at hq
            have h0 : i - hs.length = 0 := by
              rcases Nat.eq_zero_or_pos (i - hs.length) with h | h
              · exact h
              · rw [List.getElem?_eq_none (by simp; omega)] at hq; cases hq
            rw [h0] at hq
            simp at hq
            subst hq
            have : i = k := by omega
            subst this
            exact hc
    obtain ⟨hs, hl2, hin, hat⟩ := key2 len (Nat.le_refl _)
    refine ⟨hs, hl2, by omega, hin, ?_⟩
    intro i p hp
    obtain ⟨c0, c1, c2⟩ := hat i p hp
    obtain ⟨b, off, spot⟩ := ad
    have hspot : spot = none := by
      obtain ⟨p0, hp0⟩ : ∃ p0, hs[0]? = some p0 := ⟨_, List.getElem?_eq_getElem (by have := (List.getElem?_eq_some_iff.1 hp).1; omega)⟩
      have := (hat 0 p0 hp0).1
      simpa [Addr.add] using World.cell?_spot this
    subst hspot
    rw [addr_add] at c0 c1 c2
    exact ⟨b, off, rfl, c0, by simpa [Nat.add_assoc] using c1, by simpa [Nat.add_assoc] using c2⟩
/-- a struct of one field by value -/
theorem open_agg1 {H : Type} {enc : TypeId × Value → H} {P : Program} {w : World} {base : Nat} {spare : Nat → Bool} {held : Bool} {r : Reach} {b0 : Nat} {t : TypeId} {f0 : Field} {v : Value} {d : DataW H} {p : List MemPlace}
    (hs : P.underlying t = some (.struct #[f0])) (hone : oneCellFields P #[f0] = true) (hC : P.cellsOf t = 1) (hv : Value.okWide P w r b0 t v) (h : DataW.Trod enc P w base spare held t v d p) :
    ∃ (v0 : Value) (y0 : DataW H × List MemPlace) (n : Nat), v = .agg #[v0] ∧ DataW.trod enc P w base spare held n f0.type [v0] = some y0 := by
  obtain ⟨cs, rfl, hsz⟩ := okWide_struct hs hv
  obtain ⟨l⟩ := cs
  match l, hsz.trans hC with
  | [c0], _ =>
    obtain ⟨fuel, hf⟩ := h
    obtain ⟨xs, n, _, _, _, hlen, hg⟩ := DataW.trod_struct hs hf
    obtain ⟨o0, k0⟩ := hone_of hone 0 f0 rfl
    match xs, hlen with
    | [y0], _ => exact ⟨c0, y0, n, rfl, by simpa [Value.cells, o0, k0] using hg 0 f0 rfl⟩
theorem trod_slice_form {H : Type} {enc : TypeId × Value → H} {P : Program} {w : World} {base : Nat} {spare : Nat → Bool} {held : Bool} {t e : TypeId} {n : Nat} {v : Value} {y : DataW H × List MemPlace} (ht : P.underlying t = some (.slice e)) (h : DataW.trod enc P w base spare held n t [v] = some y) : ∃ a len cap, v = .slice a len cap := by
  rcases open_slice ht h with ⟨h0, _⟩ | ⟨ad, len', cap', m, n, D, Pl, hcs, _⟩
  · simp at h0; exact ⟨none, 0, 0, h0⟩
  · simp at hcs; exact ⟨_, _, _, hcs⟩
end Go.Proofs.Ytibkmhmeoelpdaa
