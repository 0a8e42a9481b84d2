/- The contracts of both FormatInt functions over the translation, and the walk of their law. -/
import Derived.Test.YtbdehelcpfkcmaaDoorDig
import Derived.Test.YtbdehelcpfkcmaaDoorShelf
import Derived.Lib.ItoaNum
import Derived.Deep.RegionWith
import Derived.IntWalk
namespace Go.Proofs.YtbdehelcpfkcmaaDoor
open Go.RowKit

/-- the bytes as a string -/
def str (l : List UInt8) : ByteArray := ⟨l.toArray⟩
theorem str_append (a b : List UInt8) : str a ++ str b = str (a ++ b) := by
  apply ByteArray.ext; simp [str]
theorem str_size (a : List UInt8) : (str a).size = a.length := by simp [str, ByteArray.size]
theorem one_at (W : World) (g : Nat) (n : Int) (u : UInt8) (h : n = (u.toNat : Int)) (hc : W.cell? ⟨g, 0, none⟩ = some (.int .u8 n)) :
    (convert 22 9 (.slice (some ⟨g, 0, none⟩) 1 1)).run Tryd.prog W = .ok (.string (str [u])) W := by
  have := run_convert_bytes_back (P := Tryd.prog) W 22 9 5 ⟨g, 0, none⟩ 1 [u] Tryd.underlying22 Tryd.underlying5 Tryd.underlying9 (by
    intro j hj
    have : j = 0 := by simp at hj; omega
    subst this
    simpa [Addr.add, h] using hc)
  simpa [str] using this
theorem dec_small (u : Nat) (h : u < 10) : Lib.decDigits u = [UInt8.ofNat (48 + u)] := by rw [Lib.decDigits]; simp [h]
theorem dec_big (u : Nat) (h : ¬ u < 10) : Lib.decDigits u = Lib.decDigits (u / 10) ++ [UInt8.ofNat (48 + u % 10)] := by rw [Lib.decDigits]; simp [h]
theorem dec_len (u : Nat) : (Lib.decDigits u).length ≤ u + 1 := by
  induction u using Nat.strongRecOn with
  | ind u ih =>
    by_cases h : u < 10
    · rw [dec_small u h]; simp
    · rw [dec_big u h]
      have := ih (u / 10) (by omega)
      simp; omega
theorem dec_len20 (u : Nat) (h : u < 10 ^ 20) : (Lib.decDigits u).length ≤ 20 := by
  suffices ∀ k u, u < 10 ^ k → (Lib.decDigits u).length ≤ max k 1 by simpa using this 20 u h
  intro k
  induction k with
  | zero => intro u hu; rw [dec_small u (by simp at hu; omega)]; simp
  | succ k ih =>
    intro u hu
    by_cases h : u < 10
    · rw [dec_small u h]; simp
    · rw [dec_big u h]
      have := ih (u / 10) (by rw [Nat.pow_succ] at hu; omega)
      have hk : 1 ≤ k := by
        rcases Nat.eq_zero_or_pos k with e | e
        · subst e; simp at hu; omega
        · exact e
      simp; omega
theorem itoa_neg (m : Nat) (h : 0 < m) : Lib.itoa (-(m : Int)) = 45 :: Lib.decDigits m := by
  unfold Lib.itoa; rw [if_pos (by omega)]; simp
theorem itoa_pos (m : Nat) : Lib.itoa (m : Int) = Lib.decDigits m := by
  unfold Lib.itoa; rw [if_neg (by omega)]; simp
theorem itoa_len (n : Int) (h0 : -9223372036854775808 ≤ n) (h1 : n ≤ 9223372036854775807) : (Lib.itoa n).length ≤ 21 := by
  unfold Lib.itoa
  split
  · have := dec_len20 n.natAbs (by omega); simp; omega
  · have := dec_len20 n.toNat (by omega); omega
theorem dig_nat (k : Nat) (h : k < 10) : (48 + (k : Int)) = ((UInt8.ofNat (48 + k)).toNat : Int) := by
  have : (UInt8.ofNat (48 + k)).toNat = 48 + k := by simp [UInt8.toNat_ofNat]; omega
  rw [this]; omega
theorem bcell {W w1 : World} (hb : Below W.heap.size W w1) : (∀ b o, b < W.heap.size → w1.cell? ⟨b, o, none⟩ = W.cell? ⟨b, o, none⟩) :=
  fun _ _ h => hb.cell h

theorem ret_strD {a b : ByteArray} (h : a = b) : Ending.returned (.string a) = .returned (.string b) := by rw [h]
set_option maxHeartbeats 800000 in
theorem spec_fmt_neg (k : Nat) : ∀ (m : Nat) (w : World), m ≤ k → 0 < m → m ≤ 9223372036854775808 →
    Calls Tryd.prog 50 #[.int .i64 (-(m : Int))] w fun e w' => e = .returned (.string (str (Lib.itoa (-(m : Int))))) ∧ Below w.heap.size w w' := by
  induction k with
  | zero => intro m w hk h0; omega
  | succ k ih =>
    intro m w hk h0 h1
    by_cases h10 : m < 10
    · have HI := Lib.hid (show str (Lib.itoa (-(m : Int))) = str [45] ++ str [UInt8.ofNat (48 + m)] by rw [itoa_neg m h0, dec_small m h10, str_append]; rfl)
      have e1 : (-(m : Int)).tdiv 10 = 0 := by rw [Int.neg_tdiv, Int.tdiv_eq_ediv_of_nonneg (by omega)]; omega
      have hcv := one_at (w.alloc (.cells #[.int .u8 (48 + (m : Int))] 5)) w.heap.size (48 + (m : Int)) _ (dig_nat m h10) (by simp)
      have hD : (str [UInt8.ofNat (48 + m)]).size ≤ 1 := by rw [str_size]; simp
      generalize str [UInt8.ofNat (48 + m)] = D at *
      have HI2 := Lib.hid (show str [45] = ⟨#[45]⟩ from rfl)
      clear ih hk
      go_enter Tryd.func50, Tryd.ntmps50
      go_wp2_with fail
      go_ret
      exact ⟨ret_strD (by rw [HI.out, HI2.out]), (Below.refl _ _).alloc (Nat.le_refl _) _⟩
    · have HI := Lib.hid (show str (Lib.itoa (-(m : Int))) = str (Lib.itoa (-((m / 10 : Nat) : Int))) ++ str [UInt8.ofNat (48 + m % 10)] by
        rw [itoa_neg m h0, dec_big m h10, itoa_neg (m / 10) (by omega), str_append]; rfl)
      have IH := Lib.hid (fun w => ih (m / 10) w (by omega) (by omega) (by omega))
      have e1 : (-(m : Int)).tdiv 10 = -((m / 10 : Nat) : Int) := by rw [Int.neg_tdiv]; simp
      have e2 : (-(m : Int)).tmod 10 = -((m % 10 : Nat) : Int) := by rw [Int.neg_tmod, Int.tmod_eq_emod_of_nonneg (by omega)]; simp
      have HL := Lib.hid (itoa_len (-((m / 10 : Nat) : Int)) (by omega) (by omega))
      have hm : m % 10 < 10 := by omega
      have hq0 : 0 < m / 10 := by omega
      have hq1 : m / 10 ≤ 922337203685477580 := by omega
      generalize m % 10 = d at *
      generalize m / 10 = q at *
      go_enter Tryd.func50, Tryd.ntmps50
      go_wp2_with fail
      have x1 : IntKind.i64.wrap (-(q : Int)) = -(q : Int) := IntWalk.i64_in _ (by omega)
      have x2 : IntKind.i64.wrap (48 + (d : Int)) = 48 + (d : Int) := IntWalk.i64_in _ (by omega)
      have x3 : IntKind.i64.wrap (-(d : Int)) = -(d : Int) := IntWalk.i64_in _ (by omega)
      have x4 : IntKind.u8.wrap (48 + (d : Int)) = 48 + (d : Int) := by simp [IntKind.wrap, IntKind.signed, IntKind.bits]; omega
      have hcv := fun W g => one_at W g (48 + (d : Int)) _ (dig_nat d hm)
      have hS : (str (Lib.itoa (-(q : Int)))).size ≤ 21 := by rw [str_size]; exact HL.out
      have hD : (str [UInt8.ofNat (48 + d)]).size ≤ 1 := by rw [str_size]; simp
      generalize str (Lib.itoa (-(q : Int))) = S at *
      generalize str [UInt8.ofNat (48 + d)] = D at *
      go_region_with (go_at_call 50; refine (IH.out _).mono ?_; rintro e w1 ⟨rfl, hb1⟩; have hc1 := bcell hb1)
      all_goals
        go_wp2_with fail
        go_ret
        refine ⟨ret_strD HI.out.symm, ?_⟩
        first
          | exact ((Below.drew (Below.refl _ _)).trans (hb1.mono (Nat.le_refl _))).alloc hb1.size _
          | exact ((Below.refl _ w).alloc (Nat.le_refl _) _).drew.trans (hb1.mono (by show w.heap.size ≤ (w.alloc _).heap.size; simp))
/-- the digits of m ahead of l -/
theorem dec_acc (m : Nat) (h : ¬ m < 10) (l : List UInt8) : Lib.decDigits m ++ l = Lib.decDigits (m / 10) ++ ([UInt8.ofNat (48 + m % 10)] ++ l) := by
  rw [dec_big m h]; simp

set_option maxRecDepth 20000 in
set_option maxHeartbeats 800000 in
theorem spec_fmt_pos (n : Nat) (w : World) (h1 : n ≤ 9223372036854775807) :
    Calls Tryd.prog 50 #[.int .i64 (n : Int)] w fun e w' => e = .returned (.string (str (Lib.itoa (n : Int)))) ∧ Below w.heap.size w w' := by
  have HI := Lib.hid (itoa_pos n)
  have HN := Lib.hid (dec_len20 n (by omega))
  go_enter Tryd.func50, Tryd.ntmps50
  go_wp2_with fail
  go_loopw [0, 3] (fun x s wr => ∃ (m : Nat) (l : List UInt8), m ≤ n ∧ x = .int .i64 m ∧ s = .string (str l) ∧ Lib.decDigits n = Lib.decDigits m ++ l ∧ Below w.heap.size w wr) (fun x _ _ => (intOf x).toNat)
  case atStart => exact ⟨n, [], Nat.le_refl _, rfl, rfl, by simp, Below.refl _ _⟩
  case round =>
    obtain ⟨m, l, hm, rfl, rfl, he, hbel⟩ := hrel
    have hl : l.length ≤ 20 := by have := HN.out; rw [he] at this; simp at this; omega
    have HE := Lib.hid he
    have hls : (str l).size ≤ 20 := by rw [str_size]; exact hl
    have hsz := hbel.size
    clear he
    by_cases h9 : 9 < m
    · have HA := Lib.hid (dec_acc m (by omega) l)
      have HB := Lib.hid (str_append [UInt8.ofNat (48 + m % 10)] l)
      have hcv := one_at (wr.alloc (.cells #[.int .u8 (48 + (m : Int) % 10)] 5)) wr.heap.size (48 + (m : Int) % 10) (UInt8.ofNat (48 + m % 10)) (by have := dig_nat (m % 10) (by omega); simpa using this) (by simp)
      have hD : (str [UInt8.ofNat (48 + m % 10)]).size ≤ 1 := by rw [str_size]; simp
      generalize str [UInt8.ofNat (48 + m % 10)] = D at *
      go_wp2_with fail
      go_roundw
      case rel => exact ⟨m / 10, _, by omega, by go_num, by rw [HB.out], by rw [HE.out, HA.out], hbel.alloc hsz _⟩
      case measure => simp [intOf]; omega
    · have HB := Lib.hid (str_append [UInt8.ofNat (48 + m)] l)
      have HC := Lib.hid (dec_small m (by omega))
      have hcv := one_at (wr.alloc (.cells #[.int .u8 (48 + (m : Int))] 5)) wr.heap.size (48 + (m : Int)) _ (dig_nat m (by omega)) (by simp)
      have hD : (str [UInt8.ofNat (48 + m)]).size ≤ 1 := by rw [str_size]; simp
      generalize str [UInt8.ofNat (48 + m)] = D at *
      go_wp2_with fail
      go_ret
      exact ⟨ret_strD (by rw [HB.out, HI.out, HE.out, HC.out]), hbel.alloc hsz _⟩

theorem spec_fmt (n : Int) (w : World) (h0 : -9223372036854775808 ≤ n) (h1 : n ≤ 9223372036854775807) :
    Calls Tryd.prog 50 #[.int .i64 n] w fun e w' => e = .returned (.string (str (Lib.itoa n))) ∧ Below w.heap.size w w' := by
  by_cases hn : n < 0
  · obtain ⟨m, rfl⟩ : ∃ m : Nat, n = -(m : Int) := ⟨n.natAbs, by omega⟩
    exact spec_fmt_neg m m w (Nat.le_refl _) (by omega) (by omega)
  · obtain ⟨m, rfl⟩ : ∃ m : Nat, n = (m : Int) := ⟨n.toNat, by omega⟩
    exact spec_fmt_pos m w (by omega)
end Go.Proofs.YtbdehelcpfkcmaaDoor
