/- Slices of strings: what they read as; the contracts of the laws' eqStringS, markStringS and heldStringS over the translation. -/
import Derived.Test.YtmmblmgeapogdaaMark
import Derived.Deep.RegionHeld3
namespace Go.Proofs.Ytmmblmgeapogdaa
open Go.RowKit

/-- the cells of a slice of strings -/
def StrsAt (w : World) (ao : Option Addr) (xs : List ByteArray) : Prop :=
  ∀ (i : Nat) x, xs[i]? = some x → ∃ g o, ao = some ⟨g, o, none⟩ ∧ w.cell? ⟨g, o + i, none⟩ = some (.string x)

theorem StrsAt.same {w w' : World} {ao : Option Addr} {xs : List ByteArray} (h : StrsAt w ao xs) (hh : w'.heap = w.heap) : StrsAt w' ao xs := by
  intro i x hx
  obtain ⟨g, o, e, hc⟩ := h i x hx
  exact ⟨g, o, e, by rw [World.cell?_of_block (w := w) (by rw [hh])]; exact hc⟩

/-- what owning a row of strings says -/
theorem own_view {w : World} {B : Nat} {v : Value} {n : Nat} {xs : List ByteArray} (h : w.ownsRow B 9 1 v n (xs.map Value.string)) :
    xs.length = n ∧ ∃ ao cap, v = .slice ao n cap ∧ StrsAt w ao xs := by
  have hl : xs.length = n := by have := h.1; simpa using this
  refine ⟨hl, ?_⟩
  rcases h.2 with ⟨rfl, rfl⟩ | ⟨g, cap, cur, rfl, _⟩
  · refine ⟨none, 0, rfl, ?_⟩
    intro i x hx
    simp [List.length_eq_zero_iff.1 hl] at hx
  · refine ⟨some ⟨g, 0, none⟩, cap, rfl, ?_⟩
    intro i x hx
    refine ⟨g, 0, rfl, ?_⟩
    have := h.cells (g := g) rfl i (.string x) (by rw [List.getElem?_map, hx]; rfl)
    have hadd : (⟨g, 0, none⟩ : Addr).add i = ⟨g, i, none⟩ := by unfold Addr.add; split <;> simp_all
    rw [hadd] at this
    simpa using this

set_option maxHeartbeats 800000 in
theorem eq_strs (a b : Option Addr) (n ca cb : Nat) (xs : List ByteArray) (w : World) (hl : xs.length = n) (hn : n ≤ 4194304) (hA : StrsAt w a xs) (hB : StrsAt w b xs) :
    Calls Try.prog 15 #[.slice a n ca, .slice b n cb] w fun e w' => e = .returned (.bool true) ∧ ∃ q, w' = w.drewN q := by
  have HL := Lib.hid hl
  have HA := Lib.hid hA
  have HB := Lib.hid hB
  clear hl hA hB
  go_enter Try.func15, Try.ntmps15
  go_wp2
  go_loopw [5] (fun i wr => ∃ k q : Nat, k ≤ n ∧ i = .int .i64 k ∧ wr = w.drewN q) (fun i _ => n - (intOf i).toNat)
  case atStart => exact ⟨0, 0, Nat.zero_le _, rfl, rfl⟩
  case round =>
    obtain ⟨k, q, hk, rfl, rfl⟩ := hrel
    by_cases hlt : k < n
    · obtain ⟨x, hx⟩ : ∃ x, xs[k]? = some x := ⟨_, List.getElem?_eq_getElem (by rw [HL.out]; exact hlt)⟩
      obtain ⟨g, o, rfl, hc⟩ := HA.out k x hx
      obtain ⟨g2, o2, rfl, hc2⟩ := HB.out k x hx
      clear hx
      go_wp2
      go_quiet (fail)
      go_wp2
      go_roundw
      case rel => exact ⟨k + 1, _, by omega, by go_num, rfl⟩
      case measure => simp [intOf]; omega
    · go_wp2
      go_ret
      exact ⟨rfl, _, rfl⟩
theorem own_below {w w' : World} {B : Nat} {e : TypeId} {s : Nat} {v : Value} {n : Nat} {xs : List Value} (h : w.ownsRow B e s v n xs) (hb : Below w.heap.size w w') : w'.ownsRow B e s v n xs := by
  refine ⟨h.1, ?_⟩
  rcases h.2 with h2 | ⟨g, cap, cur, hv, hg, hh, r⟩
  · exact .inl h2
  · exact .inr ⟨g, cap, cur, hv, hg, by rw [hb.block g (lt_of_block hh)]; exact hh, r⟩
theorem own_drewN {w : World} {B : Nat} {e : TypeId} {s : Nat} {v : Value} {n : Nat} {xs : List Value} (h : w.ownsRow B e s v n xs) (q : Nat) : (w.drewN q).ownsRow B e s v n xs := h
/-- a cell of an owned row: what it holds, that it may be written -/
theorem own_cell {w : World} {B g n cap : Nat} {e : TypeId} {xs : List Value} (h : w.ownsRow B e 1 (.slice (some ⟨g, 0, none⟩) n cap) n xs) (i : Nat) (hi : i < n) :
    (∃ u, w.cell? ⟨g, i, none⟩ = some u ∧ xs[i]? = some u) ∧ w.frozen? ⟨g, i, none⟩ = false ∧ B ≤ g ∧ g < w.heap.size := by
  rcases h.2 with ⟨h2, _⟩ | ⟨g', cap', cur, hv, hg, hh, hn, _, hs, ht⟩
  · simp at h2
  · simp at hv
    obtain ⟨rfl, rfl⟩ := hv
    have hi2 : i < cur.size := by rw [hs]; omega
    refine ⟨⟨cur[i], ?_, ?_⟩, frozen_of_row w g i cur e hh, hg, lt_of_block hh⟩
    · rw [cell_of_row w g i cur e (0, 0) hh, Array.getElem?_eq_getElem hi2]
    · rw [← ht, List.getElem?_take, if_pos (by omega)]
      simp [hi2]
/-- a store into an owned row -/
theorem own_set {w : World} {B g n cap : Nat} {e : TypeId} {xs : List Value} (h : w.ownsRow B e 1 (.slice (some ⟨g, 0, none⟩) n cap) n xs) (i : Nat) (u : Value) :
    (w.setCell ⟨g, i, none⟩ u).ownsRow B e 1 (.slice (some ⟨g, 0, none⟩) n cap) n (xs.set i u) := by
  refine ⟨by rw [List.length_set]; exact h.1, ?_⟩
  rcases h.2 with ⟨h2, _⟩ | ⟨g', cap', cur, hv, hg, hh, hn, hm, hs, ht⟩
  · simp at h2
  · simp at hv
    obtain ⟨rfl, rfl⟩ := hv
    refine .inr ⟨g, cap, cur.setIfInBounds i u, rfl, hg, ?_, hn, hm, by simpa using hs, ?_⟩
    · have hlt := lt_of_block hh
      have h' : w.heap[g] = .cells cur e (0, 0) := by simpa [Array.getElem?_eq_getElem hlt] using hh
      show (w.heap.modify g _)[g]? = _
      rw [Array.getElem?_eq_getElem (by simpa using hlt), Array.getElem_modify_self, h']
      rfl
    · rw [← ht]
      simp [List.take_set]

theorem mark_textI (n : Int) (w : World) (h1 : 0 < n) (h2 : n ≤ 4194304) :
    Calls Try.prog 30 #[.int .i64 n] w fun e w' => e = .returned (.string (mk n.toNat)) ∧ Below w.heap.size w w' := by
  obtain ⟨k, rfl⟩ : ∃ k : Nat, n = k := ⟨n.toNat, by omega⟩
  simpa using mark_text k w (by omega) (by omega)

/-- the first k marks, then what was there -/
def marked (k : Nat) (xs : List Value) : List Value := (List.range k).map (fun i => Value.string (mk (i + 1))) ++ xs.drop k
theorem marked_zero (xs : List Value) : marked 0 xs = xs := by simp [marked]
theorem marked_step (k : Nat) (xs : List Value) (h : k < xs.length) : (marked k xs).set k (.string (mk (k + 1))) = marked (k + 1) xs := by
  unfold marked
  rw [List.set_append_right _ _ (by simp), List.drop_eq_getElem_cons h, List.range_succ]
  simp only [List.length_map, List.length_range, Nat.sub_self, List.set_cons_zero, List.map_append, List.map_cons, List.map_nil, List.append_assoc, List.cons_append, List.nil_append]
theorem marked_all (n : Nat) (xs : List Value) (h : xs.length = n) : marked n xs = (List.range n).map (fun i => Value.string (mk (i + 1))) := by
  unfold marked; rw [List.drop_of_length_le (by omega)]; simp

set_option maxHeartbeats 800000 in
theorem mark_strs (v : Value) (n B : Nat) (xs : List Value) (w : World) (hn : n ≤ 4194000) (hB : B ≤ w.heap.size) (hown : w.ownsRow B 9 1 v n xs) :
    Calls Try.prog 16 #[v, .int .i64 1] w fun e w' => e = .returned (.int .i64 (n + 1)) ∧ w'.ownsRow B 9 1 v n (marked n xs) ∧ Below B w w' := by
  have HX := Lib.hid (show xs.length = n by have := hown.1; simpa using this)
  obtain ⟨ao, cap, rfl⟩ : ∃ ao cap, v = .slice ao n cap := by
    rcases hown.2 with ⟨rfl, rfl⟩ | ⟨g, cap, cur, rfl, _⟩
    · exact ⟨none, 0, rfl⟩
    · exact ⟨_, cap, rfl⟩
  have HO := Lib.hid hown
  clear hown
  go_enter Try.func16, Try.ntmps16
  go_wp2
  go_loopw [1, 5] (fun x i wr => ∃ k : Nat, k ≤ n ∧ x = .int .i64 (k + 1) ∧ i = .int .i64 k ∧ wr.ownsRow B 9 1 (.slice ao n cap) n (marked k xs) ∧ Below B w wr) (fun _ i _ => n - (intOf i).toNat)
  case atStart => exact ⟨0, Nat.zero_le _, rfl, rfl, by rw [marked_zero]; exact HO.out, Below.refl _ _⟩
  case round =>
    obtain ⟨k, hk, rfl, rfl, ho, hbel⟩ := hrel
    have HW := Lib.hid ho
    by_cases hlt : k < n
    · obtain ⟨g, rfl⟩ : ∃ g, ao = some ⟨g, 0, none⟩ := by
        rcases ho.2 with ⟨h2, h3⟩ | ⟨g, cap', cur, hv, _⟩
        · omega
        · simp at hv; exact ⟨g, hv.1⟩
      have HS := Lib.hid (marked_step k xs (by rw [HX.out]; exact hlt))
      clear ho
      go_wp2_with (go_at_call 30; refine (mark_textI _ _ (by omega) (by omega)).mono ?_; rintro e w1 ⟨rfl, hb1⟩; obtain ⟨⟨u, hc, _⟩, hf, hg, hgl⟩ := own_cell (own_below HW.out hb1) k hlt)
      go_roundw
      case rel =>
        have hs := own_set (own_below HW.out hb1) k (.string (mk (k + 1)))
        rw [HS.out] at hs
        exact ⟨k + 1, by omega, by go_num, by go_num, hs, (hbel.trans (hb1.mono (Nat.le_trans hB hbel.size))).setCell hg _⟩
      case measure => simp [intOf]; omega
    · have : k = n := by omega
      subst this
      clear ho
      go_wp2
      go_ret
      exact ⟨rfl, HW.out, hbel⟩
theorem cell_lt {w : World} {g o : Nat} {u : Value} (h : w.cell? ⟨g, o, none⟩ = some u) : g < w.heap.size := by
  rcases Nat.lt_or_ge g w.heap.size with h' | h'
  · exact h'
  · simp [World.cell?, Array.getElem?_eq_none h'] at h
theorem StrsAt.below {w w' : World} {ao : Option Addr} {xs : List ByteArray} (h : StrsAt w ao xs) (hb : Below w.heap.size w w') : StrsAt w' ao xs := by
  intro i x hx
  obtain ⟨g, o, e, hc⟩ := h i x hx
  exact ⟨g, o, e, by rw [hb.cell (cell_lt hc)]; exact hc⟩
/-- the marks -/
def marks (n : Nat) : List ByteArray := (List.range n).map fun i => mk (i + 1)
theorem marks_at (n k : Nat) (h : k < n) : (marks n)[k]? = some (mk (k + 1)) := by simp [marks, h]
theorem marked_marks (n : Nat) (xs : List Value) (h : xs.length = n) : marked n xs = (marks n).map Value.string := by
  rw [marked_all n xs h]; simp [marks]

set_option maxHeartbeats 800000 in
theorem held_strs (ao : Option Addr) (n cap : Nat) (w : World) (hn : n ≤ 4194000) (hA : StrsAt w ao (marks n)) :
    Calls Try.prog 17 #[.slice ao n cap, .int .i64 1] w fun e w' => e = .returned (.int .i64 (n + 1)) ∧ Below w.heap.size w w' := by
  have HA := Lib.hid hA
  clear hA
  go_enter Try.func17, Try.ntmps17
  go_wp2
  go_loopw [1, 5] (fun x i wr => ∃ k : Nat, k ≤ n ∧ x = .int .i64 (k + 1) ∧ i = .int .i64 k ∧ Below w.heap.size w wr) (fun _ i _ => n - (intOf i).toNat)
  case atStart => exact ⟨0, Nat.zero_le _, rfl, rfl, Below.refl _ _⟩
  case round =>
    obtain ⟨k, hk, rfl, rfl, hbel⟩ := hrel
    by_cases hlt : k < n
    · obtain ⟨g, o, rfl, hc⟩ := HA.out k _ (marks_at n k hlt)
      have hgl := cell_lt hc
      have hc2 : wr.cell? ⟨g, o + k, none⟩ = some (.string (mk (k + 1))) := by rw [hbel.cell hgl]; exact hc
      have ht : ((k : Int) + 1).toNat = k + 1 := by omega
      have hsz := hbel.size
      clear hc
      go_wp2
      go_region_held3 (fun w' => w'.cell? ⟨g, o + k, none⟩ = some (.string (mk (k + 1)))) (go_keep)
        (first | (go_at_call 30; refine (mark_textI _ _ (by omega) (by omega)).mono ?_; rintro e w1 ⟨rfl, hb1⟩; have hc3 : w1.cell? ⟨g, o + k, none⟩ = some (.string (mk (k + 1))) := (by rw [hb1.cell (by show g < wr.heap.size; omega)]; exact hc2)))
      have hb2 : Below w.heap.size w w1 := hbel.trans ((Below.drew (Below.refl _ _)).trans (hb1.mono (by show w.heap.size ≤ wr.heap.size; omega)))
      clear ht hc2 hc3
      go_wp2
      go_roundw
      case rel => exact ⟨k + 1, by omega, by go_num, by go_num, hb2⟩
      case measure => simp [intOf]; omega
    · have : k = n := by omega
      subst this
      go_wp2
      go_ret
      exact ⟨rfl, hbel⟩
end Go.Proofs.Ytmmblmgeapogdaa
