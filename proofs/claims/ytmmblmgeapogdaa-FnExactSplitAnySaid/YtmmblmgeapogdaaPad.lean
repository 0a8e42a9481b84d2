/- The contract of the model's PadZeros over the translation. -/
import Derived.Test.YtmmblmgeapogdaaDig
namespace Go.Proofs.Ytmmblmgeapogdaa
open Go.RowKit

/-- j zeros -/
def zs (j : Nat) : ByteArray := ⟨(List.replicate j (48 : UInt8)).toArray⟩
theorem zs_size (j : Nat) : (zs j).size = j := by simp [zs, ByteArray.size]
theorem zs_zero (s : ByteArray) : zs 0 ++ s = s := by
  apply ByteArray.ext; simp [zs]
theorem zs_step (j : Nat) (s : ByteArray) : (⟨#[48]⟩ : ByteArray) ++ (zs j ++ s) = zs (j + 1) ++ s := by
  apply ByteArray.ext; apply Array.ext'; simp [zs, List.replicate_succ]
theorem zs_len (j : Nat) (s : ByteArray) : (zs j ++ s).size = j + s.size := by simp [ByteArray.size_append, zs_size]
/-- what PadZeros answers -/
def padB (s : ByteArray) (n : Int) : ByteArray := if 2000 < n then s else zs (n - s.size).toNat ++ s
def szOf : Value → Nat | .string t => t.size | _ => 0

theorem ret_str {a b : ByteArray} (h : a = b) : Ending.returned (.string a) = .returned (.string b) := by rw [h]
set_option maxHeartbeats 400000 in
theorem spec_pad (s : ByteArray) (n : Int) (w : World) (hs : s.size ≤ 1048576) (hn : -9223372036854775808 ≤ n) :
    Calls Try.prog 24 #[.string s, .int .i64 n] w fun e w' => e = .returned (.string (padB s n)) ∧ w = w' := by
  by_cases h2 : 2000 < n
  · have HE := Lib.hid (show padB s n = s by simp [padB, h2])
    go_enter Try.func24, Try.ntmps24
    go_wp2
    go_ret
    exact ⟨ret_str HE.out.symm, rfl⟩
  · have HE := Lib.hid (show padB s n = zs (n - s.size).toNat ++ s by simp [padB, h2])
    have H0 := Lib.hid (zs_zero s)
    go_enter Try.func24, Try.ntmps24
    go_wp2
    go_loop [0] (fun x => ∃ j : Nat, (j : Int) ≤ 2000 ∧ j ≤ (n - s.size).toNat ∧ x = .string (zs j ++ s)) (fun x => (n - s.size).toNat + s.size - szOf x)
    case atStart => exact ⟨0, by omega, by omega, by rw [H0.out]⟩
    case round =>
      obtain ⟨j, hj1, hj2, rfl⟩ := hrel
      have HL := Lib.hid (zs_len j s)
      have HS := Lib.hid (zs_step j s)
      have HL2 := Lib.hid (zs_len (j + 1) s)
      generalize hx : zs j ++ s = x at *
      have HX := Lib.hid hx
      have hx1 : x.size = j + s.size := HL.out
      by_cases hlt : (x.size : Int) < n
      · have hx3 : j + s.size < n := by omega
        clear hx hx1
        go_wp2
        go_round
        case rel => exact ⟨j + 1, by omega, by omega, by rw [← HS.out]⟩
        case measure => simp only [szOf]; rw [HS.out, HL2.out, HL.out]; omega
      · have e : j = (n - s.size).toNat := by omega
        have HQ := Lib.hid e
        clear hx hx1 e
        go_wp2
        go_ret
        exact ⟨ret_str (by rw [HE.out, ← HQ.out, HX.out]), rfl⟩
end Go.Proofs.Ytmmblmgeapogdaa
