/- The contract of the laws' markText over the translation: a text for every number, new memory alone. -/
import Derived.Test.YtkodoedkdgldnaaPad
import Derived.IntWalk
namespace Go.Proofs.Ytkodoedkdgldnaa
open Go.RowKit

/-- the byte of the last digit -/
def lastD (k : Nat) : ByteArray := ⟨#[UInt8.ofNat (48 + k % 10)]⟩
/-- the digits of k ahead of acc -/
def mkGo (k : Nat) (acc : ByteArray) : ByteArray := if k = 0 then acc else mkGo (k / 10) (lastD k ++ acc)
termination_by k
decreasing_by omega
/-- what markText answers -/
def mk (k : Nat) : ByteArray := (⟨#[109]⟩ : ByteArray) ++ mkGo k ByteArray.empty

theorem mkGo_zero (acc : ByteArray) : mkGo 0 acc = acc := by unfold mkGo; simp
theorem mkGo_step (k : Nat) (acc : ByteArray) (h : 0 < k) : mkGo k acc = mkGo (k / 10) (lastD k ++ acc) := by
  rw [mkGo]; simp; omega

theorem one_byte (W : World) (n : Int) (u : UInt8) (h : n = (u.toNat : Int)) :
    (convert 22 9 (.slice (some ⟨W.heap.size, 0, none⟩) 1 1)).run Try.prog (W.alloc (.cells #[.int .u8 n] 5)) = .ok (.string ⟨#[u]⟩) (W.alloc (.cells #[.int .u8 n] 5)) := by
  have := run_convert_bytes_back (P := Try.prog) (W.alloc (.cells #[.int .u8 n] 5)) 22 9 5 ⟨W.heap.size, 0, none⟩ 1 [u] Try.underlying22 Try.underlying5 Try.underlying9 (by
    intro j hj
    have : j = 0 := by simp at hj; omega
    subst this
    simp [Addr.add, h])
  simpa using this
theorem lastD_nat (m : Nat) : (48 + (m : Int) % 10) = ((UInt8.ofNat (48 + m % 10)).toNat : Int) := by
  have : (UInt8.ofNat (48 + m % 10)).toNat = 48 + m % 10 := by simp [UInt8.toNat_ofNat]; omega
  rw [this]; omega
theorem lastD_size (m : Nat) (acc : ByteArray) : (lastD m ++ acc).size = 1 + acc.size := by
  rw [ByteArray.size_append]; rfl

end Go.Proofs.Ytkodoedkdgldnaa
