/- The contract of the laws' markText over the translation: a text for every number, new memory alone. -/
import Derived.Test.YtmmblmgeapogdaaPad
import Derived.IntWalk
namespace Go.Proofs.Ytmmblmgeapogdaa
open Go.RowKit

/-- the byte of the last digit -/
def lastD (k : Nat) : ByteArray := ⟨#[UInt8.ofNat (48 + k % 10)]⟩
/-- the digits of k ahead of acc -/
def mkGo (k : Nat) (acc : ByteArray) : ByteArray := if k = 0 then acc else mkGo (k / 10) (lastD k ++ acc)
termination_by k
decreasing_by omega
/-- what markText answers -/
def mk (k : Nat) : ByteArray := (⟨#[109]⟩ : ByteArray) ++ mkGo k ByteArray.empty

theorem mkGo_zero (acc : ByteArray) : mkGo 0 acc = acc := by unfold mkGo; simp
theorem mkGo_step (k : Nat) (acc : ByteArray) (h : 0 < k) : mkGo k acc = mkGo (k / 10) (lastD k ++ acc) := by
  rw [mkGo]; simp; omega

theorem one_byte (W : World) (n : Int) (u : UInt8) (h : n = (u.toNat : Int)) :
    (convert 40 9 (.slice (some ⟨W.heap.size, 0, none⟩) 1 1)).run Try.prog (W.alloc (.cells #[.int .u8 n] 5)) = .ok (.string ⟨#[u]⟩) (W.alloc (.cells #[.int .u8 n] 5)) := by
  have := run_convert_bytes_back (P := Try.prog) (W.alloc (.cells #[.int .u8 n] 5)) 40 9 5 ⟨W.heap.size, 0, none⟩ 1 [u] Try.underlying40 Try.underlying5 Try.underlying9 (by
    intro j hj
    have : j = 0 := by simp at hj; omega
    subst this
    simp [Addr.add, h])
  simpa using this
theorem lastD_nat (m : Nat) : (48 + (m : Int) % 10) = ((UInt8.ofNat (48 + m % 10)).toNat : Int) := by
  have : (UInt8.ofNat (48 + m % 10)).toNat = 48 + m % 10 := by simp [UInt8.toNat_ofNat]; omega
  rw [this]; omega
theorem lastD_size (m : Nat) (acc : ByteArray) : (lastD m ++ acc).size = 1 + acc.size := by
  rw [ByteArray.size_append]; rfl

set_option maxHeartbeats 400000 in
theorem mark_text (k : Nat) (w : World) (h1 : 0 < k) (h2 : k ≤ 4194304) :
    Calls Try.prog 30 #[.int .i64 k] w fun e w' => e = .returned (.string (mk k)) ∧ Below w.heap.size w w' := by
  go_enter Try.func30, Try.ntmps30
  go_wp2
  go_loopw [0, 3] (fun x o wr => ∃ (m : Nat) (acc : ByteArray), m ≤ k ∧ x = .int .i64 m ∧ o = .string acc ∧ acc.size + m ≤ k ∧ mkGo m acc = mkGo k ByteArray.empty ∧ Below w.heap.size w wr) (fun x _ _ => (intOf x).toNat)
  case atStart => exact ⟨k, ByteArray.empty, by omega, rfl, rfl, by simp, rfl, Below.refl _ _⟩
  case round =>
    obtain ⟨m, acc, hm, rfl, rfl, hsz, hgo, hbel⟩ := hrel
    have HG := Lib.hid hgo
    clear hgo
    by_cases h0 : 0 < m
    · have HS := Lib.hid (mkGo_step m acc h0)
      have HZ := Lib.hid (lastD_size m acc)
      have hcv := one_byte wr (48 + (m : Int) % 10) _ (lastD_nat m)
      have hb2 : Below w.heap.size w (wr.alloc (.cells #[.int .u8 (48 + (m : Int) % 10)] 5)) := hbel.alloc hbel.size _
      rw [show (⟨#[UInt8.ofNat (48 + m % 10)]⟩ : ByteArray) = lastD m from rfl] at hcv
      have hl1 : (lastD m).size = 1 := rfl
      have HL := Lib.hid hl1
      have hl2 : (lastD m).size ≤ 1 := by omega
      clear hl1
      generalize lastD m = x at *
      go_wp2
      go_roundw
      case rel => exact ⟨m / 10, x ++ acc, by omega, by go_num, rfl, by rw [HZ.out]; omega, by rw [← HS.out]; exact HG.out, hb2⟩
      case measure => simp [intOf]; omega
    · have : m = 0 := by omega
      subst this
      have HE := Lib.hid (mkGo_zero acc)
      have hsz2 : acc.size ≤ k := by omega
      go_wp2
      go_ret
      exact ⟨ret_str (by rw [mk, ← HG.out, HE.out]), hbel⟩
end Go.Proofs.Ytmmblmgeapogdaa
