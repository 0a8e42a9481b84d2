/- The contract of the model's l05Sorted over the translation: half planes in ascending order of their angles, the tightest of each direction. -/
import Derived.Test.YtobmaajfdpcfmaaSb
namespace Go.Proofs.Ytobmaajfdpcfmaa
open Go.RowKit
open Geo (H3)

/-- how many half planes of a sorted list come before h -/
def posS (L : List H3) (h : H3) : Nat := (L.takeWhile (fun x => Geo.bef x h)).length
theorem pos_cons_t {x h : H3} {L : List H3} (b : Geo.bef x h = true) : posS (x :: L) h = posS L h + 1 := by unfold posS; rw [List.takeWhile_cons, if_pos b]; rfl
theorem pos_cons_f {x h : H3} {L : List H3} (b : Geo.bef x h = false) : posS (x :: L) h = 0 := by unfold posS; rw [List.takeWhile_cons, if_neg (by rw [b]; simp)]; rfl
theorem pos_le (L : List H3) (h : H3) : posS L h ≤ L.length := (List.takeWhile_sublist _).length_le
theorem pos_lt {L : List H3} {h x : H3} {i : Nat} (hi : i < posS L h) (hx : L[i]? = some x) : Geo.bef x h = true := by
  induction L generalizing i with
  | nil => simp at hx
  | cons y L ih =>
    cases b : Geo.bef y h with
    | false => rw [pos_cons_f b] at hi; omega
    | true =>
      rw [pos_cons_t b] at hi
      cases i with
      | zero => simp at hx; subst hx; exact b
      | succ i => exact ih (i := i) (by omega) (by simpa using hx)
theorem pos_at {L : List H3} {h x : H3} (hx : L[posS L h]? = some x) : Geo.bef x h = false := by
  induction L with
  | nil => simp [posS] at hx
  | cons y L ih =>
    cases b : Geo.bef y h with
    | false => rw [pos_cons_f b] at hx; simp at hx; subst hx; exact b
    | true => rw [pos_cons_t b] at hx; exact ih (by simpa using hx)
theorem ins_set {L : List H3} {h x : H3} (hx : L[posS L h]? = some x) (s : Geo.sd x h = true) : Geo.insS L h = L.set (posS L h) (Geo.tig x h) := by
  induction L with
  | nil => simp [posS] at hx
  | cons y L ih =>
    unfold Geo.insS
    cases b : Geo.bef y h with
    | false => rw [pos_cons_f b] at hx ⊢; simp at hx; subst hx; simp [s]
    | true => rw [pos_cons_t b] at hx ⊢; simp only [if_true, List.set_cons_succ]; rw [ih (by simpa using hx)]
theorem ins_ins {L : List H3} {h : H3} (n : ∀ x, L[posS L h]? = some x → Geo.sd x h = false) : Geo.insS L h = L.take (posS L h) ++ h :: L.drop (posS L h) := by
  induction L with
  | nil => simp [Geo.insS, posS]
  | cons y L ih =>
    unfold Geo.insS
    cases b : Geo.bef y h with
    | false => rw [pos_cons_f b] at n ⊢; simp [n y (by simp)]
    | true => rw [pos_cons_t b] at n ⊢; simp only [if_true, List.take_succ_cons, List.drop_succ_cons, List.cons_append]; rw [ih (fun x hx => n x (by simpa using hx))]
/-- the tail moved up as far as place j -/
def upT (L : List H3) (j : Nat) : List H3 := (L ++ [zeroH]).take (j + 1) ++ L.drop j
theorem upT_start (L : List H3) (n : Nat) (h : L.length = n) : upT L n = L ++ [zeroH] := by
  unfold upT; rw [List.take_of_length_le (by simp; omega), List.drop_of_length_le (by omega), List.append_nil]
theorem upT_at {L : List H3} {j : Nat} (h : j < L.length) : (upT L (j + 1))[j]? = some L[j] ∧ (upT L (j + 1)).set (j + 1) L[j] = upT L j := by
  unfold upT
  have e1 : (L ++ [zeroH]).take (j + 1) = L.take (j + 1) := List.take_append_of_le_length (by omega)
  have e2 : (L ++ [zeroH]).take (j + 1 + 1) = L.take (j + 1) ++ [((L ++ [zeroH])[j + 1]'(by simp; omega))] := by
    rw [List.take_add_one, e1, List.getElem?_eq_getElem (by simp; omega)]; rfl
  have hl : (L.take (j + 1)).length = j + 1 := by rw [List.length_take]; omega
  constructor
  · rw [e2, List.append_assoc, List.getElem?_append_left (by omega), List.getElem?_take, if_pos (by omega), List.getElem?_eq_getElem h]
  · rw [e2, e1, List.append_assoc, List.set_append_right _ _ (by omega), hl, Nat.sub_self, List.drop_eq_getElem_cons h]
    rfl
theorem upT_end {L : List H3} {p : Nat} (x : H3) (h : p ≤ L.length) : (upT L p).set p x = L.take p ++ x :: L.drop p := by
  unfold upT
  have e2 : (L ++ [zeroH]).take (p + 1) = L.take p ++ [((L ++ [zeroH])[p]'(by simp; omega))] := by
    rw [List.take_add_one, List.take_append_of_le_length h, List.getElem?_eq_getElem (by simp; omega)]; rfl
  have hl : (L.take p).length = p := by rw [List.length_take]; omega
  rw [e2, List.append_assoc, List.set_append_right _ _ (by omega), hl, Nat.sub_self]; rfl
theorem upT_len {L : List H3} {j : Nat} (h : j ≤ L.length) : (upT L j).length = L.length + 1 := by
  unfold upT; simp; omega
theorem sbef_call {a b c x y d : Int} {r : Bool} (h : okH a b c = true) (k : okH x y d = true) (e : befV a b x y = r) (W : World) :
    Calls Try.prog 140 #[.agg #[.int .i64 a, .int .i64 b, .int .i64 c], .agg #[.int .i64 x, .int .i64 y, .int .i64 d]] W fun e w' => e = .returned (.bool r) ∧ Below W.heap.size W w' := by
  obtain ⟨⟨a1, a2⟩, ⟨b1, b2⟩, c1, c2⟩ := half_in h
  obtain ⟨⟨x1, x2⟩, ⟨y1, y2⟩, d1, d2⟩ := half_in k
  have := spec_bef a b c x y d W a1 a2 b1 b2 c1 c2 x1 x2 y1 y2 d1 d2
  rw [show befH a b c x y d = r by unfold befH; rw [h, k, e]; rfl] at this
  exact this
theorem ssd_call {a b c x y d : Int} {r : Bool} (h : okH a b c = true) (k : okH x y d = true) (e : sdV a b x y = r) (W : World) :
    Calls Try.prog 141 #[.agg #[.int .i64 a, .int .i64 b, .int .i64 c], .agg #[.int .i64 x, .int .i64 y, .int .i64 d]] W fun e w' => e = .returned (.bool r) ∧ Below W.heap.size W w' := by
  obtain ⟨⟨a1, a2⟩, ⟨b1, b2⟩, c1, c2⟩ := half_in h
  obtain ⟨⟨x1, x2⟩, ⟨y1, y2⟩, d1, d2⟩ := half_in k
  have := spec_sd a b c x y d W a1 a2 b1 b2 c1 c2 x1 x2 y1 y2 d1 d2
  rw [show sdH a b c x y d = r by unfold sdH; rw [h, k, e]; rfl] at this
  exact this
theorem stig_call {a b c x y d : Int} (h : okH a b c = true) (k : okH x y d = true) (e : sdV a b x y = true) (W : World) :
    Calls Try.prog 142 #[.agg #[.int .i64 a, .int .i64 b, .int .i64 c], .agg #[.int .i64 x, .int .i64 y, .int .i64 d]] W fun e w' => e = .returned (.agg #[.int .i64 (Geo.tig ⟨a, b, c⟩ ⟨x, y, d⟩).a, .int .i64 (Geo.tig ⟨a, b, c⟩ ⟨x, y, d⟩).b, .int .i64 (Geo.tig ⟨a, b, c⟩ ⟨x, y, d⟩).c]) ∧ Below W.heap.size W w' := by
  obtain ⟨⟨a1, a2⟩, ⟨b1, b2⟩, c1, c2⟩ := half_in h
  obtain ⟨⟨x1, x2⟩, ⟨y1, y2⟩, d1, d2⟩ := half_in k
  have := spec_tig a b c x y d W a1 a2 b1 b2 c1 c2 x1 x2 y1 y2 d1 d2
  have hs : sdH a b c x y d = true := by unfold sdH; rw [h, k, e]; rfl
  have ht : tigH a b c x y d = .agg #[.int .i64 (Geo.tig ⟨a, b, c⟩ ⟨x, y, d⟩).a, .int .i64 (Geo.tig ⟨a, b, c⟩ ⟨x, y, d⟩).b, .int .i64 (Geo.tig ⟨a, b, c⟩ ⟨x, y, d⟩).c] := by
    unfold tigH Geo.tig Geo.len lenH
    rw [if_pos hs]
    simp only
    split <;> rfl
  rw [ht] at this
  exact this
theorem sd_V (f g : H3) : Geo.sd f g = sdV f.a f.b g.a g.b := rfl
end Go.Proofs.Ytobmaajfdpcfmaa
