/- The contract of the program's ParseSpot at every text, over the translation. -/
import Derived.Test.YtbdehelcpfkcmaaDoorIps
namespace Go.Proofs.YtbdehelcpfkcmaaDoor
open Go.RowKit

theorem no44_dec (m : Nat) : (44 : UInt8) ∉ Lib.decDigits m := by
  intro h
  have h1 := dec_all m
  unfold allD at h1
  rw [List.all_eq_true] at h1
  have := h1 _ h
  simp [isD] at this
theorem no44 (n : Int) : (44 : UInt8) ∉ Lib.itoa n := by
  by_cases hv : n < 0
  · obtain ⟨m, rfl⟩ : ∃ m : Nat, n = -(m : Int) := ⟨n.natAbs, by omega⟩
    rw [itoa_neg m (by omega)]
    intro h
    rcases List.mem_cons.1 h with h | h
    · exact absurd h (by decide)
    · exact no44_dec m h
  · obtain ⟨m, rfl⟩ : ∃ m : Nat, n = (m : Int) := ⟨n.toNat, by omega⟩
    rw [itoa_pos m]; exact no44_dec m
theorem no44_rat (n d : Int) : (44 : UInt8) ∉ fmtR n d := by
  unfold fmtR
  split
  · split
    · exact no44 n
    · intro h
      rcases List.mem_append.1 h with h | h
      · exact no44 n h
      · rcases List.mem_cons.1 h with h | h
        · exact absurd h (by decide)
        · exact no44 d h
  · simp
/-- a text with a comma, or an empty one, is no fraction's -/
theorem comma_no_rat {l : List UInt8} (h : (44 : UInt8) ∈ l) : ∀ n d, ¬ isRat l n d := by
  rintro n d ⟨_, h2⟩
  have := no44_rat n d
  rw [h2] at this
  exact this h
theorem nil_no_rat : ∀ n d, ¬ isRat [] n d := by
  rintro n d ⟨h1, h2⟩
  unfold fmtR at h2
  rw [if_pos h1] at h2
  split at h2
  · exact itoa_ne n h2
  · simp at h2

theorem RAns.ok {l : List UInt8} {N D : Int} (h : RAns l N D true) : okR N D = true ∧ fmtR N D = l := by
  rcases h with ⟨_, h⟩ | ⟨h, _⟩
  · exact h
  · cases h
theorem parS_ex (n1 d1 n2 d2 : Int) : ∃ X Y D : Int, ∃ B : Bool, parS n1 d1 n2 d2 = .tuple #[.agg #[.int .i64 X, .int .i64 Y, .int .i64 D], .bool B] := by
  unfold parS
  split
  · exact ⟨_, _, _, _, rfl⟩
  · exact ⟨0, 0, 0, false, rfl⟩
/-- what ParseSpot answers at two parts -/
def twoS (n1 d1 : Int) (b1 : Bool) (n2 d2 : Int) (b2 : Bool) : Value := if b1 = true ∧ b2 = true then parS n1 d1 n2 d2 else zeroS
theorem impl_ps2 (s x y : ByteArray) (n1 d1 n2 d2 : Int) (c b1 b2 : Bool) (w : World) (hv : Vars w)
    (hC : ∀ W, Calls Tryd.prog 24 #[.string s, .string ⟨#[44]⟩] W fun e w' => e = .returned (.tuple #[.string x, .string y, .bool c]) ∧ ∃ k, w' = W.drewN k)
    (hx : x.size ≤ 1048576) (hy : y.size ≤ 1048576) (r1 : RAns x.data.toList n1 d1 b1) (r2 : RAns y.data.toList n2 d2 b2) :
    Calls Tryd.prog 10 #[.string s] w fun e w' => e = .returned (twoS n1 d1 b1 n2 d2 b2) ∧ Below w.heap.size w w' := by
  have p1 := fun W hW => impl_pr x n1 d1 b1 W hx r1 hW
  have p2 := fun W hW => impl_pr y n2 d2 b2 W hy r2 hW
  cases b1 with
  | false => exact is_no1 s x y n1 d1 n2 d2 c b2 w hv hC p1 p2
  | true =>
    cases b2 with
    | false => exact is_no2 s x y n1 d1 n2 d2 c w hv hC p1 p2
    | true =>
      have hA := fun W => at_spot n1 d1 n2 d2 W r1.ok.1 r2.ok.1
      obtain ⟨X, Y, D, B, e⟩ := parS_ex n1 d1 n2 d2
      rw [show twoS n1 d1 true n2 d2 true = parS n1 d1 n2 d2 from if_pos ⟨rfl, rfl⟩]
      rw [e] at hA ⊢
      exact is_yes s x y n1 d1 n2 d2 c X Y D B w hv hC p1 p2 hA
theorem impl_ps_no (s : ByteArray) (w : World) (hs : s.size ≤ 1048576) (h : (44 : UInt8) ∉ s.data.toList) (hv : Vars w) :
    Calls Tryd.prog 10 #[.string s] w fun e w' => e = .returned zeroS ∧ Below w.heap.size w w' := by
  obtain ⟨n1, d1, b1, r1⟩ := RAns.ex s.data.toList
  have r2 : RAns (⟨#[]⟩ : ByteArray).data.toList 0 0 false := .inr ⟨rfl, rfl, rfl, nil_no_rat⟩
  have h2 := impl_ps2 s s ⟨#[]⟩ n1 d1 0 0 false b1 false w hv (fun W => cutc_no 44 s W h) hs (by decide) r1 r2
  rw [show twoS n1 d1 b1 0 0 false = zeroS from if_neg (by simp)] at h2
  exact h2
theorem impl_ps_yes (s : ByteArray) (a b : List UInt8) (n1 d1 n2 d2 : Int) (b1 b2 : Bool) (w : World) (hs : s.size ≤ 1048576) (h : s.data.toList = a ++ 44 :: b) (ha : (44 : UInt8) ∉ a) (r1 : RAns a n1 d1 b1) (r2 : RAns b n2 d2 b2) (hv : Vars w) :
    Calls Tryd.prog 10 #[.string s] w fun e w' => e = .returned (twoS n1 d1 b1 n2 d2 b2) ∧ Below w.heap.size w w' := by
  have hsz := (ext_c 44 h).2.2
  exact impl_ps2 s (str a) (str b) n1 d1 n2 d2 true b1 b2 w hv (fun W => cutc_yes 44 s a b W hs h ha) (by rw [str_size]; omega) (by rw [str_size]; omega) (by rw [str_data]; exact r1) (by rw [str_data]; exact r2)
end Go.Proofs.YtbdehelcpfkcmaaDoor
