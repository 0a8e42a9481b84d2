/- The laws' own source of numbers: the contracts of the functions that draw from a code, over the translation: what is drawn lies within its bounds, and nothing that was there is written but the source itself. The contracts of the laws' makers of numbers and texts over the translation. -/
import Derived.Test.YtefafkainfhhkaaTxt
namespace Go.Proofs.Ytefafkainfhhkaa
open Go.RowKit

theorem and255 (y : Int) : 0 ≤ bits .and .i64 y 255 ∧ bits .and .i64 y 255 ≤ 255 := by
  have h : ((BitVec.ofInt IntKind.i64.bits y) &&& (BitVec.ofInt IntKind.i64.bits 255)).toNat ≤ 255 := by
    rw [BitVec.toNat_and]
    exact Nat.le_trans Nat.and_le_right (by decide)
  unfold bits
  simp only
  rw [IntWalk.i64_in _ (by omega)]
  omega

/-- the bytes of a code, wherever it lies -/
def BytesAt (w : World) (a : Option Addr) (len : Nat) : Prop :=
  ∀ j, j < len → ∃ b o x, a = some ⟨b, o, none⟩ ∧ w.cell? ⟨b, o + j, none⟩ = some (.int .u8 x) ∧ 0 ≤ x ∧ x ≤ 255
theorem BytesAt.below {w w' : World} {a : Option Addr} {len : Nat} (h : BytesAt w a len) (hb : Below w.heap.size w w') : BytesAt w' a len := by
  intro j hj
  obtain ⟨b, o, x, e, hc, h0, h1⟩ := h j hj
  exact ⟨b, o, x, e, by rw [hb.cell (cell_lt hc)]; exact hc, h0, h1⟩
theorem setCell_grown (w : World) (g i : Nat) (v : Value) : w.grownBy (w.setCell ⟨g, i, none⟩ v) (some g) :=
  ⟨rfl, rfl, rfl, by simp [World.setCell], fun k _ hk => Below.heap_setCell w ⟨g, i, none⟩ v k (fun e => hk (by rw [e]))⟩
theorem grown_trans {w w1 w2 : World} {r : Option Nat} (h : w.grownBy w1 r) (k : w1.grownBy w2 r) : w.grownBy w2 r :=
  ⟨k.os.trans h.os, k.tape.trans h.tape, k.output.trans h.output, Nat.le_trans h.size k.size, fun j hj hr => (k.block j (Nat.lt_of_lt_of_le hj h.size) hr).trans (h.block j hj hr)⟩
theorem grown_drewN (w : World) (q : Nat) (r : Option Nat) : w.grownBy (w.drewN q) r := ⟨rfl, rfl, rfl, Nat.le_refl _, fun _ _ _ => rfl⟩
theorem grown_alloc (w : World) (o : Obj) (r : Option Nat) : w.grownBy (w.alloc o) r := World.grownBy_alloc w o r

/-- a number within bounds, out of new memory alone -/
def Num (lo hi : Int) (w : World) (e : Ending) (w' : World) : Prop := ∃ x : Int, (lo ≤ x ∧ x ≤ hi) ∧ e = .returned (.int .i64 x) ∧ Below w.heap.size w w'

/-- the words that MakeText strings together -/
def words : List ByteArray := [⟨#[97]⟩, ⟨#[98, 99]⟩, ⟨#[32]⟩, ⟨#[44]⟩, ⟨#[120, 49]⟩]
theorem words_size (x : ByteArray) (h : x ∈ words) : x.size ≤ 2 := by
  simp only [words, List.mem_cons, List.not_mem_nil, or_false] at h
  rcases h with rfl | rfl | rfl | rfl | rfl <;> decide
theorem words_at (W : World) : ∀ (j : Nat) x, words[j]? = some x → (W.alloc (.cells #[.string ⟨#[97]⟩, .string ⟨#[98, 99]⟩, .string ⟨#[32]⟩, .string ⟨#[44]⟩, .string ⟨#[120, 49]⟩] 9)).cell? ⟨W.heap.size, j, none⟩ = some (.string x) := by
  intro j x hj
  rw [cell_of_row _ _ _ _ _ _ (heap_alloc_new W _)]
  match j, hj with
  | 0, hj => simp [words] at hj; subst hj; rfl
  | 1, hj => simp [words] at hj; subst hj; rfl
  | 2, hj => simp [words] at hj; subst hj; rfl
  | 3, hj => simp [words] at hj; subst hj; rfl
  | 4, hj => simp [words] at hj; subst hj; rfl
/-- a short text, out of new memory alone -/
def Short (w : World) (e : Ending) (w' : World) : Prop := ∃ s : ByteArray, s.size ≤ 100 ∧ e = .returned (.string s) ∧ Below w.heap.size w w'

end Go.Proofs.Ytefafkainfhhkaa
