/- The contracts of the two IsName functions over the translation, and the walk of their law. -/
import Derived.Test.YtmmblmgeapogdaaDoorDig
namespace Go.Proofs.YtmmblmgeapogdaaDoor
open Go.RowKit

/-- a byte is a small letter -/
def isL (c : UInt8) : Bool := decide (97 ≤ c.toNat ∧ c.toNat ≤ 122)
/-- a byte may stand at place k of a name -/
def okAt (k : Nat) (c : UInt8) : Bool := isL c || (!decide (k = 0) && isD c)
/-- the bytes before place k may stand where they stand -/
def allN (s : ByteArray) (k : Nat) : Bool := (List.range k).all fun i => okAt i (s.data.toList.getD i 0)
/-- a name -/
def nameB (s : ByteArray) : Bool := allN s s.size && decide (1 ≤ s.size ∧ s.size ≤ 8)

theorem getD_at (s : ByteArray) (k : Nat) (h : k < s.size) : s.data.toList.getD k 0 = s[k] := by
  have h' : k < s.data.toList.length := by simpa using h
  rw [List.getD_eq_getElem?_getD, List.getElem?_eq_getElem h']; rfl
theorem allN_next (s : ByteArray) (k : Nat) (h : k < s.size) (ha : allN s k = true) (hd : okAt k s[k] = true) : allN s (k + 1) = true := by
  unfold allN at *
  rw [List.range_succ, List.all_append, ha]
  simp only [Bool.true_and, List.all_cons, List.all_nil, Bool.and_true]
  rw [getD_at s k h, hd]
theorem name_no (s : ByteArray) (k : Nat) (h : k < s.size) (hd : okAt k s[k] = false) : nameB s = false := by
  have e : allN s s.size = false := by
    unfold allN
    rw [List.all_eq_false]
    refine ⟨k, by simpa using h, ?_⟩
    rw [getD_at s k h, hd]; simp
  unfold nameB; rw [e]; rfl
theorem name_yes (s : ByteArray) (k : Nat) (h : ¬ k < s.size) (hk : k ≤ s.size) (ha : allN s k = true) : nameB s = decide (1 ≤ s.size ∧ s.size ≤ 8) := by
  have e : k = s.size := by omega
  subst e
  unfold nameB; rw [ha]; rfl

/-- which of the five kinds a byte is -/
theorem kinds (c : Int) : c < 48 ∨ (48 ≤ c ∧ c ≤ 57) ∨ (57 < c ∧ c < 97) ∨ (97 ≤ c ∧ c ≤ 122) ∨ 122 < c := by omega

theorem isSmall_yes (n : Int) (w : World) (h1 : 97 ≤ n) (h2 : n ≤ 122) :
    Calls Tryd.prog 25 #[.int .i32 n] w fun e w' => e = .returned (.bool true) ∧ w = w' := by
  go_enter Tryd.func25, Tryd.ntmps25
  go_wp2
  go_ret
  exact ⟨rfl, rfl⟩
theorem isSmall_no (n : Int) (w : World) (h : n < 97 ∨ 122 < n) :
    Calls Tryd.prog 25 #[.int .i32 n] w fun e w' => e = .returned (.bool false) ∧ w = w' := by
  rcases h with h | h
  · go_enter Tryd.func25, Tryd.ntmps25
    go_wp2
    go_ret
    exact ⟨rfl, rfl⟩
  · have h1 : 97 ≤ n := by omega
    have h2 : decide (n ≤ 122) = false := by simp; omega
    go_enter Tryd.func25, Tryd.ntmps25
    go_wp2
    go_ret
    exact ⟨rfl, rfl⟩
end Go.Proofs.YtmmblmgeapogdaaDoor
