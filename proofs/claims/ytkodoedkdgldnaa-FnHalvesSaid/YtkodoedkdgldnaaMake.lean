/- The contracts of the laws' makers of numbers and texts over the translation. -/
import Derived.Test.YtkodoedkdgldnaaCur
import Derived.Test.YtkodoedkdgldnaaPad
namespace Go.Proofs.Ytkodoedkdgldnaa
open Go.RowKit

theorem below_drawn {w0 w w' : World} {g len cap : Nat} {a : Option Addr} (hb : Below w0.heap.size w0 w) (hg : w0.heap.size ≤ g) (hd : Drawn g a len cap w w') : Below w0.heap.size w0 w' :=
  hb.grown hd.1 hb.size (fun k hk => by simp at hk; omega)

set_option maxHeartbeats 800000 in
theorem new26 (w : World) (a : Option Addr) (len cap n : Nat) (hn : n ≤ 1000000) (hl : len ≤ 1048576) (hB : BytesAt w a len) : Calls Try.prog 44 #[.slice a len cap, .int .i64 n] w (News a len cap w) := by
  have HB := Lib.hid hB
  clear hB
  go_enter Try.func44, Try.ntmps44
  go_wp2_with fail
  refine (new_cur w a len cap hl HB.out).mono ?_
  rintro e w1 ⟨g, rfl, hg, hs, hb⟩
  have HS := Lib.hid hs
  clear hs
  go_wp2_with fail
  go_loopw [6] (fun i wr => ∃ k : Nat, k ≤ n ∧ i = .int .i64 k ∧ Src wr g a len cap ∧ Below w.heap.size w wr) (fun i _ => n - (intOf i).toNat)
  case atStart => exact ⟨0, Nat.zero_le _, rfl, HS.out, hb⟩
  case round =>
    obtain ⟨k, hk, rfl, hs, hb2⟩ := hrel
    have HS2 := Lib.hid hs
    clear hs
    by_cases hlt : k < n
    · go_wp2_with fail
      refine (byte_cur HS2.out).mono ?_
      rintro e w2 ⟨x, _, rfl, hd⟩
      have HS3 := Lib.hid (HS2.out.drawn hd)
      have hb3 := below_drawn hb2 hg hd
      go_wp2_with fail
      go_roundw
      case rel => exact ⟨k + 1, by omega, by go_num, HS3.out, hb3⟩
      case measure => simp [intOf]; omega
    · go_wp2_with fail
      go_ret
      exact ⟨g, rfl, hg, HS2.out, hb2⟩

/-- a number within bounds, out of new memory alone -/
def Num (lo hi : Int) (w : World) (e : Ending) (w' : World) : Prop := ∃ x : Int, (lo ≤ x ∧ x ≤ hi) ∧ e = .returned (.int .i64 x) ∧ Below w.heap.size w w'

/-- a text out of a list, drawn -/
def Text (xs : List ByteArray) (g : Nat) (a : Option Addr) (len cap : Nat) (w : World) (e : Ending) (w' : World) : Prop := ∃ x, x ∈ xs ∧ e = .returned (.string x) ∧ Drawn g a len cap w w'
/-- the words that MakeText strings together -/
def words : List ByteArray := [⟨#[97]⟩, ⟨#[98, 99]⟩, ⟨#[32]⟩, ⟨#[44]⟩, ⟨#[120, 49]⟩]
theorem words_size (x : ByteArray) (h : x ∈ words) : x.size ≤ 2 := by
  simp only [words, List.mem_cons, List.not_mem_nil, or_false] at h
  rcases h with rfl | rfl | rfl | rfl | rfl <;> decide
theorem words_at (W : World) : ∀ (j : Nat) x, words[j]? = some x → (W.alloc (.cells #[.string ⟨#[97]⟩, .string ⟨#[98, 99]⟩, .string ⟨#[32]⟩, .string ⟨#[44]⟩, .string ⟨#[120, 49]⟩] 9)).cell? ⟨W.heap.size, j, none⟩ = some (.string x) := by
  intro j x hj
  rw [cell_of_row _ _ _ _ _ _ (heap_alloc_new W _)]
  match j, hj with
  | 0, hj => simp [words] at hj; subst hj; rfl
  | 1, hj => simp [words] at hj; subst hj; rfl
  | 2, hj => simp [words] at hj; subst hj; rfl
  | 3, hj => simp [words] at hj; subst hj; rfl
  | 4, hj => simp [words] at hj; subst hj; rfl
/-- a short text, out of new memory alone -/
def Short (w : World) (e : Ending) (w' : World) : Prop := ∃ s : ByteArray, s.size ≤ 100 ∧ e = .returned (.string s) ∧ Below w.heap.size w w'

end Go.Proofs.Ytkodoedkdgldnaa
