/- What the law FnAngles rests on: of two directions exactly one comes first, or they are the same; a half plane whose border is moved in is the tighter one. -/
import Derived.Test.YtkodoedkdgldnaaTig
import Derived.Test.YtkodoedkdgldnaaMkh
namespace Go.Proofs.Ytkodoedkdgldnaa
open Go.RowKit

theorem bef_one (a b x y : Int) : (befV a b x y = true ∧ befV x y a b = false ∧ sdV a b x y = false) ∨ (befV a b x y = false ∧ befV x y a b = true ∧ sdV a b x y = false) ∨ (befV a b x y = false ∧ befV x y a b = false ∧ sdV a b x y = true) := by
  unfold befV sdV
  have e : x * b - y * a = -(a * y - b * x) := by rw [Int.mul_comm x b, Int.mul_comm y a]; omega
  rw [e]
  generalize a * y - b * x = T
  cases upB a b <;> cases upB x y
  · rcases Int.lt_trichotomy T 0 with h | h | h
    · right; left; simp; omega
    · right; right; simp; omega
    · left; simp; omega
  · right; left; simp
  · left; simp
  · rcases Int.lt_trichotomy T 0 with h | h | h
    · right; left; simp; omega
    · right; right; simp; omega
    · left; simp; omega
theorem sd_self (a b : Int) : sdV a b a b = true := by
  unfold sdV
  rw [Int.mul_comm b a]
  simp
theorem up_scale {A B g : Int} (hg : 1 ≤ g) : upB (A * g) (B * g) = upB A B := by
  have sgn : ∀ v : Int, (0 < v * g ↔ 0 < v) := by
    intro v
    constructor
    · intro h
      rcases Int.lt_or_le 0 v with k | k
      · exact k
      · have := Int.mul_nonpos_of_nonpos_of_nonneg k (by omega : 0 ≤ g); omega
    · intro h
      exact Int.mul_pos h (by omega)
  have zer : B * g = 0 ↔ B = 0 := by
    constructor
    · intro h
      rcases Int.mul_eq_zero.1 h with k | k
      · exact k
      · omega
    · intro h; subst h; simp
  unfold upB
  simp only [sgn, zer]
theorem sd_scale {A B g : Int} (hg : 1 ≤ g) : sdV (A * g) (B * g) A B = true ∧ sdV A B (A * g) (B * g) = true := by
  unfold sdV
  rw [up_scale hg]
  have e1 : A * g * B - B * g * A = 0 := by rw [Int.mul_right_comm A g B, Int.mul_right_comm B g A, Int.mul_comm B A]; omega
  have e2 : A * (B * g) - B * (A * g) = 0 := by rw [← Int.mul_assoc, ← Int.mul_assoc, Int.mul_comm B A]; omega
  simp [e1, e2]
theorem len_scale {A B g : Int} (hg : 1 ≤ g) : lenH (A * g) (B * g) = lenH A B * g := by
  unfold lenH
  rw [Int.natAbs_mul, Int.natAbs_mul, Int.add_mul]
  have : (g.natAbs : Int) = g := by omega
  push_cast
  rw [this]
theorem len_pos {A B : Int} (h : A ≠ 0 ∨ B ≠ 0) : 0 < lenH A B := by unfold lenH; omega

/-- the half plane with the border moved in by one -/
theorem moved_in {a b c : Int} (h : SmallH a b c) :
    ∃ A B C : Int, ansH a b (c - 1) = spotS A B C ∧ okH A B C = true ∧ tigH a b c A B C = .agg #[.int .i64 A, .int .i64 B, .int .i64 C] ∧ tigH A B C a b c = .agg #[.int .i64 A, .int .i64 B, .int .i64 C] := by
  obtain ⟨hok, a1, a2, b1, b2, c1, c2⟩ := h
  have h0 := ((okH_iff _ _ _).1 hok).2.2.2.2.1
  obtain ⟨A, B, C, g, hA, hk, hg, ea, eb, ec⟩ := has_half (a := a) (b := b) (c := c - 1) h0 (by omega) (by omega) (by omega) (by omega) (by omega) (by omega)
  have hlen := len_pos ((okH_iff _ _ _).1 hk).2.2.2.2.1
  refine ⟨A, B, C, hA, hk, ?_, ?_⟩
  · have s : sdH a b c A B C = true := by
      unfold sdH
      rw [hok, hk, ea, eb, (sd_scale hg).1]; rfl
    have lt : C * lenH a b < c * lenH A B := by
      rw [ea, eb, len_scale hg, ← Int.mul_assoc, Int.mul_right_comm C, ← ec, Int.sub_mul]
      omega
    rw [show tigH a b c A B C = _ from if_pos s, if_pos lt]
  · have s : sdH A B C a b c = true := by
      unfold sdH
      rw [hok, hk, ea, eb, (sd_scale hg).2]; rfl
    have ge : ¬ c * lenH A B < C * lenH a b := by
      rw [ea, eb, len_scale hg, ← Int.mul_assoc, Int.mul_right_comm C, ← ec, Int.sub_mul]
      omega
    rw [show tigH A B C a b c = _ from if_pos s, if_neg ge]
theorem tig_cases {a b c x y d : Int} (h : okH a b c = true) (k : okH x y d = true) :
    (sdV a b x y = true → ∃ X Y D : Int, tigH a b c x y d = .agg #[.int .i64 X, .int .i64 Y, .int .i64 D] ∧ (X ≠ 0 ∨ Y ≠ 0)) ∧ (sdV a b x y = false → tigH a b c x y d = .agg #[.int .i64 0, .int .i64 0, .int .i64 0]) := by
  have h0 := ((okH_iff _ _ _).1 h).2.2.2.2.1
  have k0 := ((okH_iff _ _ _).1 k).2.2.2.2.1
  constructor
  · intro s
    have s' : sdH a b c x y d = true := by unfold sdH; rw [h, k, s]; rfl
    rw [show tigH a b c x y d = _ from if_pos s']
    split
    · exact ⟨x, y, d, rfl, k0⟩
    · exact ⟨a, b, c, rfl, h0⟩
  · intro s
    exact if_neg (by unfold sdH; rw [s]; simp)
theorem half_in {a b c : Int} (h : okH a b c = true) : (-9223372036854775808 ≤ a ∧ a ≤ 9223372036854775807) ∧ (-9223372036854775808 ≤ b ∧ b ≤ 9223372036854775807) ∧ (-9223372036854775808 ≤ c ∧ c ≤ 9223372036854775807) := by
  obtain ⟨a1, a2, b1, b2, _, c1, c2, _⟩ := (okH_iff _ _ _).1 h
  omega
theorem bef_call {a b c x y d : Int} {r : Bool} (h : okH a b c = true) (k : okH x y d = true) (e : befV a b x y = r) (W : World) :
    Calls Try.prog 26 #[.agg #[.int .i64 a, .int .i64 b, .int .i64 c], .agg #[.int .i64 x, .int .i64 y, .int .i64 d]] W fun e w' => e = .returned (.bool r) ∧ Below W.heap.size W w' := by
  obtain ⟨⟨a1, a2⟩, ⟨b1, b2⟩, c1, c2⟩ := half_in h
  obtain ⟨⟨x1, x2⟩, ⟨y1, y2⟩, d1, d2⟩ := half_in k
  have := impl_bef a b c x y d W a1 a2 b1 b2 c1 c2 x1 x2 y1 y2 d1 d2
  rw [show befH a b c x y d = r by unfold befH; rw [h, k, e]; rfl] at this
  exact this
theorem sd_call {a b c x y d : Int} {r : Bool} (h : okH a b c = true) (k : okH x y d = true) (e : sdV a b x y = r) (W : World) :
    Calls Try.prog 27 #[.agg #[.int .i64 a, .int .i64 b, .int .i64 c], .agg #[.int .i64 x, .int .i64 y, .int .i64 d]] W fun e w' => e = .returned (.bool r) ∧ Below W.heap.size W w' := by
  obtain ⟨⟨a1, a2⟩, ⟨b1, b2⟩, c1, c2⟩ := half_in h
  obtain ⟨⟨x1, x2⟩, ⟨y1, y2⟩, d1, d2⟩ := half_in k
  have := impl_sd a b c x y d W a1 a2 b1 b2 c1 c2 x1 x2 y1 y2 d1 d2
  rw [show sdH a b c x y d = r by unfold sdH; rw [h, k, e]; rfl] at this
  exact this
theorem tig_call {a b c x y d : Int} {v : Value} (h : okH a b c = true) (k : okH x y d = true) (e : tigH a b c x y d = v) (W : World) :
    Calls Try.prog 29 #[.agg #[.int .i64 a, .int .i64 b, .int .i64 c], .agg #[.int .i64 x, .int .i64 y, .int .i64 d]] W fun e w' => e = .returned v ∧ Below W.heap.size W w' := by
  obtain ⟨⟨a1, a2⟩, ⟨b1, b2⟩, c1, c2⟩ := half_in h
  obtain ⟨⟨x1, x2⟩, ⟨y1, y2⟩, d1, d2⟩ := half_in k
  have := impl_tig a b c x y d W a1 a2 b1 b2 c1 c2 x1 x2 y1 y2 d1 d2
  rw [e] at this
  exact this
theorem hok_call {a b c : Int} (h : okH a b c = true) (W : World) :
    Calls Try.prog 19 #[.agg #[.int .i64 a, .int .i64 b, .int .i64 c]] W fun e w' => e = .returned (.bool true) ∧ Below W.heap.size W w' := by
  obtain ⟨⟨a1, a2⟩, ⟨b1, b2⟩, c1, c2⟩ := half_in h
  have := impl_hok a b c W a1 a2 b1 b2 c1 c2
  rw [h] at this
  exact this
end Go.Proofs.Ytkodoedkdgldnaa
