/- The contracts of the two IsDigits functions over the translation. The contract of the model's PadZeros over the translation. The contract of the laws' markText over the translation: a text for every number, new memory alone. Slices of strings: what they read as; the contracts of the laws' eqStringS, markStringS and heldStringS over the translation. The laws' own source of numbers: the contracts of the functions that draw from a code, over the translation: what is drawn lies within its bounds, and nothing that was there is written but the source itself. The contracts of the laws' makers of numbers and texts over the translation. -/
import Derived.Test.YtibkmhmeoelpdaaProg
import Derived.WalkKit
import Derived.WalkLawsBesides
import Derived.Laws.RangeAny
import Derived.Lib.Hide
import Derived.Below
import Derived.BigQuiet
import Derived.Deep.QuietTactic
import Derived.IntWalk
import Derived.Deep.RegionHeld3
namespace Go.Proofs.Ytibkmhmeoelpdaa
open Go.RowKit

/-- a byte is a decimal digit -/
def isD (c : UInt8) : Bool := decide (48 ≤ c.toNat ∧ c.toNat ≤ 57)
/-- all bytes are digits -/
def allD (l : List UInt8) : Bool := l.all isD
/-- at least one byte, all digits -/
def digs (l : List UInt8) : Bool := allD l && !l.isEmpty

theorem ret_bool {a b : Bool} (h : a = b) : Ending.returned (.bool a) = .returned (.bool b) := by rw [h]
theorem take_snoc (s : ByteArray) (k : Nat) (h : k < s.size) : s.data.toList.take (k + 1) = s.data.toList.take k ++ [s[k]] := by
  rw [List.take_succ_eq_append_getElem (by simpa using h)]; rfl
theorem split_at (s : ByteArray) (k : Nat) (h : k < s.size) : s.data.toList = s.data.toList.take k ++ s[k] :: s.data.toList.drop (k + 1) := by
  have e : s.data.toList.drop k = s[k] :: s.data.toList.drop (k + 1) := by
    rw [List.drop_eq_getElem_cons (by simpa using h)]; rfl
  rw [← e, List.take_append_drop]
theorem allD_next (s : ByteArray) (k : Nat) (h : k < s.size) (ha : allD (s.data.toList.take k) = true) (hd : isD s[k] = true) : allD (s.data.toList.take (k + 1)) = true := by
  rw [take_snoc s k h]
  unfold allD at *
  rw [List.all_append, ha]
  simp [hd]
theorem digs_no (s : ByteArray) (k : Nat) (h : k < s.size) (hd : isD s[k] = false) : digs s.data.toList = false := by
  rw [split_at s k h]
  simp [digs, allD, hd]
theorem digs_yes (s : ByteArray) (k : Nat) (h : ¬ k < s.size) (hk : k ≤ s.size) (ha : allD (s.data.toList.take k) = true) : digs s.data.toList = decide (0 < s.size) := by
  have e : k = s.size := by omega
  subst e
  have hl : s.data.toList.length = s.size := by simp
  rw [List.take_of_length_le (by omega)] at ha
  unfold digs
  rw [ha]
  cases h2 : s.data.toList with
  | nil => simp [h2] at hl; simp [← hl]
  | cons a t => simp [h2] at hl; simp; omega

theorem empty_iff (s : ByteArray) : s.toList.isEmpty = !decide (0 < s.size) := by
  rw [ByteArray.toList_eq]
  have hl : s.data.toList.length = s.size := by simp
  cases h2 : s.data.toList with
  | nil => simp [h2] at hl; simp [← hl]
  | cons a t => simp [h2] at hl; simp; omega

/-- j zeros -/
def zs (j : Nat) : ByteArray := ⟨(List.replicate j (48 : UInt8)).toArray⟩
theorem zs_size (j : Nat) : (zs j).size = j := by simp [zs, ByteArray.size]
theorem zs_zero (s : ByteArray) : zs 0 ++ s = s := by
  apply ByteArray.ext; simp [zs]
theorem zs_step (j : Nat) (s : ByteArray) : (⟨#[48]⟩ : ByteArray) ++ (zs j ++ s) = zs (j + 1) ++ s := by
  apply ByteArray.ext; apply Array.ext'; simp [zs, List.replicate_succ]
theorem zs_len (j : Nat) (s : ByteArray) : (zs j ++ s).size = j + s.size := by simp [ByteArray.size_append, zs_size]
/-- what PadZeros answers -/
def padB (s : ByteArray) (n : Int) : ByteArray := if 2000 < n then s else zs (n - s.size).toNat ++ s
def szOf : Value → Nat | .string t => t.size | _ => 0

theorem ret_str {a b : ByteArray} (h : a = b) : Ending.returned (.string a) = .returned (.string b) := by rw [h]
/-- the byte of the last digit -/
def lastD (k : Nat) : ByteArray := ⟨#[UInt8.ofNat (48 + k % 10)]⟩
/-- the digits of k ahead of acc -/
def mkGo (k : Nat) (acc : ByteArray) : ByteArray := if k = 0 then acc else mkGo (k / 10) (lastD k ++ acc)
termination_by k
decreasing_by omega
/-- what markText answers -/
def mk (k : Nat) : ByteArray := (⟨#[109]⟩ : ByteArray) ++ mkGo k ByteArray.empty

theorem mkGo_zero (acc : ByteArray) : mkGo 0 acc = acc := by unfold mkGo; simp
theorem mkGo_step (k : Nat) (acc : ByteArray) (h : 0 < k) : mkGo k acc = mkGo (k / 10) (lastD k ++ acc) := by
  rw [mkGo]; simp; omega

theorem one_byte (W : World) (n : Int) (u : UInt8) (h : n = (u.toNat : Int)) :
    (convert 64 9 (.slice (some ⟨W.heap.size, 0, none⟩) 1 1)).run Try.prog (W.alloc (.cells #[.int .u8 n] 5)) = .ok (.string ⟨#[u]⟩) (W.alloc (.cells #[.int .u8 n] 5)) := by
  have := run_convert_bytes_back (P := Try.prog) (W.alloc (.cells #[.int .u8 n] 5)) 64 9 5 ⟨W.heap.size, 0, none⟩ 1 [u] Try.underlying64 Try.underlying5 Try.underlying9 (by
    intro j hj
    have : j = 0 := by simp at hj; omega
    subst this
    simp [Addr.add, h])
  simpa using this
theorem lastD_nat (m : Nat) : (48 + (m : Int) % 10) = ((UInt8.ofNat (48 + m % 10)).toNat : Int) := by
  have : (UInt8.ofNat (48 + m % 10)).toNat = 48 + m % 10 := by simp [UInt8.toNat_ofNat]; omega
  rw [this]; omega
theorem lastD_size (m : Nat) (acc : ByteArray) : (lastD m ++ acc).size = 1 + acc.size := by
  rw [ByteArray.size_append]; rfl

/-- the cells of a slice of strings -/
def StrsAt (w : World) (ao : Option Addr) (xs : List ByteArray) : Prop :=
  ∀ (i : Nat) x, xs[i]? = some x → ∃ g o, ao = some ⟨g, o, none⟩ ∧ w.cell? ⟨g, o + i, none⟩ = some (.string x)

theorem StrsAt.same {w w' : World} {ao : Option Addr} {xs : List ByteArray} (h : StrsAt w ao xs) (hh : w'.heap = w.heap) : StrsAt w' ao xs := by
  intro i x hx
  obtain ⟨g, o, e, hc⟩ := h i x hx
  exact ⟨g, o, e, by rw [World.cell?_of_block (w := w) (by rw [hh])]; exact hc⟩

/-- what owning a row of strings says -/
theorem own_view {w : World} {B : Nat} {v : Value} {n : Nat} {xs : List ByteArray} (h : w.ownsRow B 9 1 v n (xs.map Value.string)) :
    xs.length = n ∧ ∃ ao cap, v = .slice ao n cap ∧ StrsAt w ao xs := by
  have hl : xs.length = n := by have := h.1; simpa using this
  refine ⟨hl, ?_⟩
  rcases h.2 with ⟨rfl, rfl⟩ | ⟨g, cap, cur, rfl, _⟩
  · refine ⟨none, 0, rfl, ?_⟩
    intro i x hx
    simp [List.length_eq_zero_iff.1 hl] at hx
  · refine ⟨some ⟨g, 0, none⟩, cap, rfl, ?_⟩
    intro i x hx
    refine ⟨g, 0, rfl, ?_⟩
    have := h.cells (g := g) rfl i (.string x) (by rw [List.getElem?_map, hx]; rfl)
    have hadd : (⟨g, 0, none⟩ : Addr).add i = ⟨g, i, none⟩ := by unfold Addr.add; split <;> simp_all
    rw [hadd] at this
    simpa using this

theorem own_below {w w' : World} {B : Nat} {e : TypeId} {s : Nat} {v : Value} {n : Nat} {xs : List Value} (h : w.ownsRow B e s v n xs) (hb : Below w.heap.size w w') : w'.ownsRow B e s v n xs := by
  refine ⟨h.1, ?_⟩
  rcases h.2 with h2 | ⟨g, cap, cur, hv, hg, hh, r⟩
  · exact .inl h2
  · exact .inr ⟨g, cap, cur, hv, hg, by rw [hb.block g (lt_of_block hh)]; exact hh, r⟩
theorem own_drewN {w : World} {B : Nat} {e : TypeId} {s : Nat} {v : Value} {n : Nat} {xs : List Value} (h : w.ownsRow B e s v n xs) (q : Nat) : (w.drewN q).ownsRow B e s v n xs := h
/-- a cell of an owned row: what it holds, that it may be written -/
theorem own_cell {w : World} {B g n cap : Nat} {e : TypeId} {xs : List Value} (h : w.ownsRow B e 1 (.slice (some ⟨g, 0, none⟩) n cap) n xs) (i : Nat) (hi : i < n) :
    (∃ u, w.cell? ⟨g, i, none⟩ = some u ∧ xs[i]? = some u) ∧ w.frozen? ⟨g, i, none⟩ = false ∧ B ≤ g ∧ g < w.heap.size := by
  rcases h.2 with ⟨h2, _⟩ | ⟨g', cap', cur, hv, hg, hh, hn, _, hs, ht⟩
  · simp at h2
  · simp at hv
    obtain ⟨rfl, rfl⟩ := hv
    have hi2 : i < cur.size := by rw [hs]; omega
    refine ⟨⟨cur[i], ?_, ?_⟩, frozen_of_row w g i cur e hh, hg, lt_of_block hh⟩
    · rw [cell_of_row w g i cur e (0, 0) hh, Array.getElem?_eq_getElem hi2]
    · rw [← ht, List.getElem?_take, if_pos (by omega)]
      simp [hi2]
/-- a store into an owned row -/
theorem own_set {w : World} {B g n cap : Nat} {e : TypeId} {xs : List Value} (h : w.ownsRow B e 1 (.slice (some ⟨g, 0, none⟩) n cap) n xs) (i : Nat) (u : Value) :
    (w.setCell ⟨g, i, none⟩ u).ownsRow B e 1 (.slice (some ⟨g, 0, none⟩) n cap) n (xs.set i u) := by
  refine ⟨by rw [List.length_set]; exact h.1, ?_⟩
  rcases h.2 with ⟨h2, _⟩ | ⟨g', cap', cur, hv, hg, hh, hn, hm, hs, ht⟩
  · simp at h2
  · simp at hv
    obtain ⟨rfl, rfl⟩ := hv
    refine .inr ⟨g, cap, cur.setIfInBounds i u, rfl, hg, ?_, hn, hm, by simpa using hs, ?_⟩
    · have hlt := lt_of_block hh
      have h' : w.heap[g] = .cells cur e (0, 0) := by simpa [Array.getElem?_eq_getElem hlt] using hh
      show (w.heap.modify g _)[g]? = _
      rw [Array.getElem?_eq_getElem (by simpa using hlt), Array.getElem_modify_self, h']
      rfl
    · rw [← ht]
      simp [List.take_set]

/-- the first k marks, then what was there -/
def marked (k : Nat) (xs : List Value) : List Value := (List.range k).map (fun i => Value.string (mk (i + 1))) ++ xs.drop k
theorem marked_zero (xs : List Value) : marked 0 xs = xs := by simp [marked]
theorem marked_step (k : Nat) (xs : List Value) (h : k < xs.length) : (marked k xs).set k (.string (mk (k + 1))) = marked (k + 1) xs := by
  unfold marked
  rw [List.set_append_right _ _ (by simp), List.drop_eq_getElem_cons h, List.range_succ]
  simp only [List.length_map, List.length_range, Nat.sub_self, List.set_cons_zero, List.map_append, List.map_cons, List.map_nil, List.append_assoc, List.cons_append, List.nil_append]
theorem marked_all (n : Nat) (xs : List Value) (h : xs.length = n) : marked n xs = (List.range n).map (fun i => Value.string (mk (i + 1))) := by
  unfold marked; rw [List.drop_of_length_le (by omega)]; simp

theorem cell_lt {w : World} {g o : Nat} {u : Value} (h : w.cell? ⟨g, o, none⟩ = some u) : g < w.heap.size := by
  rcases Nat.lt_or_ge g w.heap.size with h' | h'
  · exact h'
  · simp [World.cell?, Array.getElem?_eq_none h'] at h
theorem StrsAt.below {w w' : World} {ao : Option Addr} {xs : List ByteArray} (h : StrsAt w ao xs) (hb : Below w.heap.size w w') : StrsAt w' ao xs := by
  intro i x hx
  obtain ⟨g, o, e, hc⟩ := h i x hx
  exact ⟨g, o, e, by rw [hb.cell (cell_lt hc)]; exact hc⟩
/-- the marks -/
def marks (n : Nat) : List ByteArray := (List.range n).map fun i => mk (i + 1)
theorem marks_at (n k : Nat) (h : k < n) : (marks n)[k]? = some (mk (k + 1)) := by simp [marks, h]
theorem marked_marks (n : Nat) (xs : List Value) (h : xs.length = n) : marked n xs = (marks n).map Value.string := by
  rw [marked_all n xs h]; simp [marks]

theorem and255 (y : Int) : 0 ≤ bits .and .i64 y 255 ∧ bits .and .i64 y 255 ≤ 255 := by
  have h : ((BitVec.ofInt IntKind.i64.bits y) &&& (BitVec.ofInt IntKind.i64.bits 255)).toNat ≤ 255 := by
    rw [BitVec.toNat_and]
    exact Nat.le_trans Nat.and_le_right (by decide)
  unfold bits
  simp only
  rw [IntWalk.i64_in _ (by omega)]
  omega

/-- the bytes of a code, wherever it lies -/
def BytesAt (w : World) (a : Option Addr) (len : Nat) : Prop :=
  ∀ j, j < len → ∃ b o x, a = some ⟨b, o, none⟩ ∧ w.cell? ⟨b, o + j, none⟩ = some (.int .u8 x) ∧ 0 ≤ x ∧ x ≤ 255
theorem BytesAt.below {w w' : World} {a : Option Addr} {len : Nat} (h : BytesAt w a len) (hb : Below w.heap.size w w') : BytesAt w' a len := by
  intro j hj
  obtain ⟨b, o, x, e, hc, h0, h1⟩ := h j hj
  exact ⟨b, o, x, e, by rw [hb.cell (cell_lt hc)]; exact hc, h0, h1⟩
/-- a source over the code at block g -/
def Cur (w : World) (g : Nat) (a : Option Addr) (len cap : Nat) : Prop :=
  ∃ i h : Int, w.heap[g]? = some (.cells #[.slice a len cap, .int .i64 i, .int .i64 h] 110 (0, 0)) ∧ 0 ≤ i ∧ i ≤ len
theorem Cur.kept {w w' : World} {g len cap : Nat} {a : Option Addr} (h : Cur w g a len cap) (hh : w'.heap[g]? = w.heap[g]?) : Cur w' g a len cap := by
  obtain ⟨i, k, h1, h2⟩ := h
  exact ⟨i, k, by rw [hh]; exact h1, h2⟩
/-- what a drawing call does to the world -/
def Drawn (g : Nat) (a : Option Addr) (len cap : Nat) (w w' : World) : Prop := w.grownBy w' (some g) ∧ Cur w' g a len cap
theorem setCell_grown (w : World) (g i : Nat) (v : Value) : w.grownBy (w.setCell ⟨g, i, none⟩ v) (some g) :=
  ⟨rfl, rfl, rfl, by simp [World.setCell], fun k _ hk => Below.heap_setCell w ⟨g, i, none⟩ v k (fun e => hk (by rw [e]))⟩
theorem grown_trans {w w1 w2 : World} {r : Option Nat} (h : w.grownBy w1 r) (k : w1.grownBy w2 r) : w.grownBy w2 r :=
  ⟨k.os.trans h.os, k.tape.trans h.tape, k.output.trans h.output, Nat.le_trans h.size k.size, fun j hj hr => (k.block j (Nat.lt_of_lt_of_le hj h.size) hr).trans (h.block j hj hr)⟩
theorem grown_drewN (w : World) (q : Nat) (r : Option Nat) : w.grownBy (w.drewN q) r := ⟨rfl, rfl, rfl, Nat.le_refl _, fun _ _ _ => rfl⟩
theorem grown_alloc (w : World) (o : Obj) (r : Option Nat) : w.grownBy (w.alloc o) r := World.grownBy_alloc w o r

set_option maxHeartbeats 1600000 in
theorem byte_raw (w : World) (g : Nat) (a : Option Addr) (len cap : Nat) (hC : Cur w g a len cap) (hl : len ≤ 1048576) (hB : BytesAt w a len) (hne : ∀ b o, 0 < len → a = some ⟨b, o, none⟩ → b ≠ g) :
    Calls Try.prog 64 #[.pointer (some ⟨g, 0, none⟩)] w fun e w' => ∃ x : Int, (0 ≤ x ∧ x ≤ 255) ∧ e = .returned (.int .i64 x) ∧ Drawn g a len cap w w' := by
  obtain ⟨i, h, hc, h0, h1⟩ := hC
  have c0 : w.cell? ⟨g, 0, none⟩ = some (.slice a len cap) := by rw [cell_of_row w g 0 _ _ _ hc]; rfl
  have c1 : w.cell? ⟨g, 1, none⟩ = some (.int .i64 i) := by rw [cell_of_row w g 1 _ _ _ hc]; rfl
  have c2 : w.cell? ⟨g, 2, none⟩ = some (.int .i64 h) := by rw [cell_of_row w g 2 _ _ _ hc]; rfl
  have f1 := frozen_of_row w g 1 _ _ hc
  have f2 := frozen_of_row w g 2 _ _ hc
  have HC := Lib.hid hc
  have HB := Lib.hid hB
  have HN := Lib.hid hne
  clear hc hB hne
  by_cases hlt : i < len
  · obtain ⟨j, rfl⟩ : ∃ j : Nat, i = j := ⟨i.toNat, by omega⟩
    obtain ⟨b, o, y, rfl, hy, hy0, hy1⟩ := HB.out j (by omega)
    have hbg := HN.out b o (by omega) rfl
    go_enter Try.func64, Try.ntmps64
    go_wp2
    generalize wrap64 (wrap64 (h * 6364136223846793005) + 1442695040888963407) = H
    go_quiet (fail)
    go_wp2
    generalize hX : bits .and .i64 (bits .xor .i64 (H / 8589934592) (H / 35184372088832)) 255 = x
    have hx := and255 (bits .xor .i64 (H / 8589934592) (H / 35184372088832))
    rw [hX] at hx
    obtain ⟨hx0, hx1⟩ := hx
    clear hX
    go_quiet (fail)
    go_wp2
    have ww : IntKind.i64.wrap (x + y) = x + y := IntWalk.i64_in _ (by omega)
    go_quiet (fail)
    clear ww
    go_wp2
    have hz := and255 (x + y)
    generalize bits .and .i64 (x + y) 255 = z at *
    obtain ⟨hz0, hz1⟩ := hz
    go_wp2
    go_ret
    refine ⟨z, ⟨hz0, hz1⟩, rfl, ?_⟩
    refine ⟨grown_trans (grown_trans (setCell_grown w g 2 _) (grown_drewN _ _ _)) (setCell_grown _ g 1 _), (j : Int) + 1, H, ?_, by omega, by omega⟩
    exact heap_setCell_same _ g 1 _ 110 _ (heap_setCell_same w g 2 _ 110 _ HC.out)
  · go_enter Try.func64, Try.ntmps64
    go_wp2
    generalize wrap64 (wrap64 (h * 6364136223846793005) + 1442695040888963407) = H
    go_quiet (fail)
    go_wp2
    generalize hX : bits .and .i64 (bits .xor .i64 (H / 8589934592) (H / 35184372088832)) 255 = x
    have hx := and255 (bits .xor .i64 (H / 8589934592) (H / 35184372088832))
    rw [hX] at hx
    obtain ⟨hx0, hx1⟩ := hx
    clear hX
    go_quiet (fail)
    go_wp2
    go_ret
    refine ⟨x, ⟨hx0, hx1⟩, rfl, ?_⟩
    refine ⟨grown_trans (grown_trans (setCell_grown w g 2 _) (grown_drewN _ _ _)) (grown_drewN _ _ _), i, H, ?_, by omega, by omega⟩
    exact heap_setCell_same w g 2 _ 110 _ HC.out
/-- a code and a source over it that do not share -/
def Src (w : World) (g : Nat) (a : Option Addr) (len cap : Nat) : Prop := Cur w g a len cap ∧ len ≤ 1048576 ∧ BytesAt w a len ∧ ∀ b o, 0 < len → a = some ⟨b, o, none⟩ → b ≠ g
theorem Src.drawn {w w' : World} {g len cap : Nat} {a : Option Addr} (h : Src w g a len cap) (hd : Drawn g a len cap w w') : Src w' g a len cap := by
  obtain ⟨_, hl, hb, hn⟩ := h
  refine ⟨hd.2, hl, ?_, hn⟩
  intro j hj
  obtain ⟨b, o, x, e, hc, h0⟩ := hb j hj
  refine ⟨b, o, x, e, ?_, h0⟩
  rw [World.cell?_of_block (w := w) (hd.1.block b (cell_lt hc) (by simpa using hn b o (by omega) e))]
  exact hc
theorem Src.alloc {w : World} {g len cap : Nat} {a : Option Addr} (h : Src w g a len cap) (o : Obj) : Src (w.alloc o) g a len cap := by
  obtain ⟨⟨i, k, h1, h2⟩, hl, hb, hn⟩ := h
  refine ⟨⟨i, k, by rw [Below.heap_alloc w o g (lt_of_block h1)]; exact h1, h2⟩, hl, ?_, hn⟩
  exact hb.below ((Below.refl _ w).alloc (Nat.le_refl _) _)
theorem Drawn.trans {w w1 w2 : World} {g len cap : Nat} {a : Option Addr} (h : Drawn g a len cap w w1) (k : Drawn g a len cap w1 w2) : Drawn g a len cap w w2 := ⟨grown_trans h.1 k.1, k.2⟩
/-- a draw of a number within bounds -/
def Gave (lo hi : Int) (g : Nat) (a : Option Addr) (len cap : Nat) (w : World) (e : Ending) (w' : World) : Prop := ∃ x : Int, (lo ≤ x ∧ x ≤ hi) ∧ e = .returned (.int .i64 x) ∧ Drawn g a len cap w w'

theorem byte_cur {w : World} {g len cap : Nat} {a : Option Addr} (h : Src w g a len cap) : Calls Try.prog 64 #[.pointer (some ⟨g, 0, none⟩)] w (Gave 0 255 g a len cap w) :=
  byte_raw w g a len cap h.1 h.2.1 h.2.2.1 h.2.2.2

set_option maxHeartbeats 800000 in
theorem below_cur {w : World} {g len cap : Nat} {a : Option Addr} (n : Int) (h : Src w g a len cap) (h0 : 0 < n) (h1 : n ≤ 1000000000000) :
    Calls Try.prog 63 #[.pointer (some ⟨g, 0, none⟩), .int .i64 n] w (Gave 0 (n - 1) g a len cap w) := by
  have H := Lib.hid h
  clear h
  by_cases h2 : n ≤ 256
  · go_enter Try.func63, Try.ntmps63
    go_wp2_with fail
    refine (byte_cur H.out).mono ?_
    rintro e w1 ⟨x, ⟨hx0, hx1⟩, rfl, hd⟩
    have hne : n ≠ 0 := by omega
    have hm0 := Int.emod_nonneg x hne
    have hm1 := Int.emod_lt_of_pos x h0
    go_wp2_with fail
    go_ret
    exact ⟨x % n, ⟨hm0, by omega⟩, rfl, hd⟩
  · go_enter Try.func63, Try.ntmps63
    go_wp2_with fail
    refine (byte_cur H.out).mono ?_
    rintro e w1 ⟨x, ⟨hx0, hx1⟩, rfl, hd1⟩
    have H1 := Lib.hid (H.out.drawn hd1)
    go_wp2_with fail
    refine (byte_cur H1.out).mono ?_
    rintro e w2 ⟨y, ⟨hy0, hy1⟩, rfl, hd2⟩
    have H2 := Lib.hid (H1.out.drawn hd2)
    go_wp2_with fail
    refine (byte_cur H2.out).mono ?_
    rintro e w3 ⟨z, ⟨hz0, hz1⟩, rfl, hd3⟩
    have H3 := Lib.hid (H2.out.drawn hd3)
    go_wp2_with fail
    refine (byte_cur H3.out).mono ?_
    rintro e w4 ⟨u, ⟨hu0, hu1⟩, rfl, hd4⟩
    have hne : n ≠ 0 := by omega
    have hm0 := Int.emod_nonneg (x * 16777216 + y * 65536 + z * 256 + u) hne
    have hm1 := Int.emod_lt_of_pos (x * 16777216 + y * 65536 + z * 256 + u) h0
    go_wp2_with fail
    go_ret
    exact ⟨_, ⟨hm0, by omega⟩, rfl, ((hd1.trans hd2).trans hd3).trans hd4⟩

/-- a new source over a code -/
def News (a : Option Addr) (len cap : Nat) (w : World) (e : Ending) (w' : World) : Prop := ∃ g, e = .returned (.pointer (some ⟨g, 0, none⟩)) ∧ w.heap.size ≤ g ∧ Src w' g a len cap ∧ Below w.heap.size w w'

theorem new_src (w : World) (a : Option Addr) (len cap : Nat) (hl : len ≤ 1048576) (hB : BytesAt w a len) (x : Int) :
    News a len cap w (.returned (.pointer (some ⟨w.heap.size, 0, none⟩))) (w.alloc (.cells #[.slice a len cap, .int .i64 0, .int .i64 x] 110)) := by
  refine ⟨w.heap.size, rfl, Nat.le_refl _, ⟨⟨0, x, heap_alloc_new _ _, by omega, by omega⟩, hl, hB.below ((Below.refl _ w).alloc (Nat.le_refl _) _), ?_⟩, (Below.refl _ w).alloc (Nat.le_refl _) _⟩
  intro b o h e
  obtain ⟨b', o', _, e', hc, _⟩ := hB 0 h
  rw [e] at e'
  simp at e'
  have := cell_lt hc
  omega

set_option maxRecDepth 100000 in
set_option maxHeartbeats 800000 in
theorem new_cur (w : World) (a : Option Addr) (len cap : Nat) (hl : len ≤ 1048576) (hB : BytesAt w a len) : Calls Try.prog 84 #[.slice a len cap] w (News a len cap w) := by
  have HB := Lib.hid hB
  clear hB
  go_enter Try.func84, Try.ntmps84
  go_wp2
  go_loop [3, 4] (fun h i => ∃ (k : Nat) (x : Int), k ≤ len ∧ i = .int .i64 k ∧ h = .int .i64 x) (fun _ i => len - (intOf i).toNat)
  case atStart => exact ⟨0, _, Nat.zero_le _, rfl, rfl⟩
  case round =>
    obtain ⟨k, x, hk, rfl, rfl⟩ := hrel
    by_cases hlt : k < len
    · by_cases h4 : (k : Int) < 4000
      · obtain ⟨b, o, y, rfl, hy, hy0, hy1⟩ := HB.out k hlt
        go_wp2
        go_round
        case rel => exact ⟨k + 1, _, by omega, by go_num, rfl⟩
        case measure => simp [intOf]; omega
      · have h5 : decide ((k : Int) < 4000) = false := by simpa using h4
        go_wp2
        go_ret
        exact new_src w a len cap hl HB.out x
    · go_wp2
      go_ret
      exact new_src w a len cap hl HB.out x

theorem below_drawn {w0 w w' : World} {g len cap : Nat} {a : Option Addr} (hb : Below w0.heap.size w0 w) (hg : w0.heap.size ≤ g) (hd : Drawn g a len cap w w') : Below w0.heap.size w0 w' :=
  hb.grown hd.1 hb.size (fun k hk => by simp at hk; omega)

set_option maxHeartbeats 800000 in
theorem new26 (w : World) (a : Option Addr) (len cap n : Nat) (hn : n ≤ 1000000) (hl : len ≤ 1048576) (hB : BytesAt w a len) : Calls Try.prog 61 #[.slice a len cap, .int .i64 n] w (News a len cap w) := by
  have HB := Lib.hid hB
  clear hB
  go_enter Try.func61, Try.ntmps61
  go_wp2_with fail
  refine (new_cur w a len cap hl HB.out).mono ?_
  rintro e w1 ⟨g, rfl, hg, hs, hb⟩
  have HS := Lib.hid hs
  clear hs
  go_wp2_with fail
  go_loopw [6] (fun i wr => ∃ k : Nat, k ≤ n ∧ i = .int .i64 k ∧ Src wr g a len cap ∧ Below w.heap.size w wr) (fun i _ => n - (intOf i).toNat)
  case atStart => exact ⟨0, Nat.zero_le _, rfl, HS.out, hb⟩
  case round =>
    obtain ⟨k, hk, rfl, hs, hb2⟩ := hrel
    have HS2 := Lib.hid hs
    clear hs
    by_cases hlt : k < n
    · go_wp2_with fail
      refine (byte_cur HS2.out).mono ?_
      rintro e w2 ⟨x, _, rfl, hd⟩
      have HS3 := Lib.hid (HS2.out.drawn hd)
      have hb3 := below_drawn hb2 hg hd
      go_wp2_with fail
      go_roundw
      case rel => exact ⟨k + 1, by omega, by go_num, HS3.out, hb3⟩
      case measure => simp [intOf]; omega
    · go_wp2_with fail
      go_ret
      exact ⟨g, rfl, hg, HS2.out, hb2⟩

/-- a number within bounds, out of new memory alone -/
def Num (lo hi : Int) (w : World) (e : Ending) (w' : World) : Prop := ∃ x : Int, (lo ≤ x ∧ x ≤ hi) ∧ e = .returned (.int .i64 x) ∧ Below w.heap.size w w'

set_option maxHeartbeats 800000 in
theorem make_num (w : World) (a : Option Addr) (len cap n : Nat) (hn : n ≤ 1000000) (hl : len ≤ 1048576) (hB : BytesAt w a len) : Calls Try.prog 32 #[.slice a len cap, .int .i64 n] w (Num 0 65535 w) := by
  have HB := Lib.hid hB
  clear hB
  go_enter Try.func32, Try.ntmps32
  go_wp2_with fail
  refine (new26 w a len cap n hn hl HB.out).mono ?_
  rintro e w1 ⟨g, rfl, hg, hs, hb⟩
  have HS := Lib.hid hs
  clear hs
  go_wp2_with fail
  refine (byte_cur HS.out).mono ?_
  rintro e w2 ⟨x, ⟨hx0, hx1⟩, rfl, hd⟩
  have HS2 := Lib.hid (HS.out.drawn hd)
  have hb2 := below_drawn hb hg hd
  go_wp2_with fail
  refine (byte_cur HS2.out).mono ?_
  rintro e w3 ⟨y, ⟨hy0, hy1⟩, rfl, hd2⟩
  have hb3 := below_drawn hb2 hg hd2
  go_wp2_with fail
  go_ret
  exact ⟨_, ⟨by omega, by omega⟩, rfl, hb3⟩

/-- a text out of a list, drawn -/
def Text (xs : List ByteArray) (g : Nat) (a : Option Addr) (len cap : Nat) (w : World) (e : Ending) (w' : World) : Prop := ∃ x, x ∈ xs ∧ e = .returned (.string x) ∧ Drawn g a len cap w w'
/-- the words that MakeText strings together -/
def words : List ByteArray := [⟨#[97]⟩, ⟨#[98, 99]⟩, ⟨#[32]⟩, ⟨#[44]⟩, ⟨#[120, 49]⟩]
theorem words_size (x : ByteArray) (h : x ∈ words) : x.size ≤ 2 := by
  simp only [words, List.mem_cons, List.not_mem_nil, or_false] at h
  rcases h with rfl | rfl | rfl | rfl | rfl <;> decide
theorem words_at (W : World) : ∀ (j : Nat) x, words[j]? = some x → (W.alloc (.cells #[.string ⟨#[97]⟩, .string ⟨#[98, 99]⟩, .string ⟨#[32]⟩, .string ⟨#[44]⟩, .string ⟨#[120, 49]⟩] 9)).cell? ⟨W.heap.size, j, none⟩ = some (.string x) := by
  intro j x hj
  rw [cell_of_row _ _ _ _ _ _ (heap_alloc_new W _)]
  match j, hj with
  | 0, hj => simp [words] at hj; subst hj; rfl
  | 1, hj => simp [words] at hj; subst hj; rfl
  | 2, hj => simp [words] at hj; subst hj; rfl
  | 3, hj => simp [words] at hj; subst hj; rfl
  | 4, hj => simp [words] at hj; subst hj; rfl
/-- a short text, out of new memory alone -/
def Short (w : World) (e : Ending) (w' : World) : Prop := ∃ s : ByteArray, s.size ≤ 100 ∧ e = .returned (.string s) ∧ Below w.heap.size w w'

end Go.Proofs.Ytibkmhmeoelpdaa
