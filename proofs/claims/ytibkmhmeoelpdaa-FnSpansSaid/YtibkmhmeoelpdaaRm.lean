/- The contracts of both RegionOk functions over the translation. The contracts of both HasSpot functions over the translation, and the walk of their law. -/
import Derived.Test.YtibkmhmeoelpdaaSk
namespace Go.Proofs.Ytibkmhmeoelpdaa
open Go.RowKit
open Geo (H3)

/-- whether half planes are those of a valid region -/
def rokB (hs : List H3) : Bool := decide (hs = []) || (okF hs && sameB hs (regE hs))
theorem rok_nil {hs : List H3} {n : Nat} (hl : hs.length = n) (h : n = 0) : rokB hs = true := by
  have : hs = [] := List.eq_nil_of_length_eq_zero (by omega)
  unfold rokB; simp [this]
theorem rok_pos {hs : List H3} {n : Nat} (hl : hs.length = n) (h : n ≠ 0) : rokB hs = (okF hs && sameB hs (regE hs)) := by
  have : hs ≠ [] := by rintro rfl; simp at hl; omega
  unfold rokB; simp [this]
set_option maxHeartbeats 1600000 in
theorem impl_rok (a : Option Addr) (n cap : Nat) (hs : List H3) (w : World) (hl : hs.length = n) (hn : n ≤ 1048576) (h64 : ∀ h ∈ hs, In64 h) (hA : HsAt w a hs) :
    Calls Try.prog 92 #[.agg #[.slice a n cap]] w fun e w' => e = .returned (.bool (rokB hs)) ∧ Below w.heap.size w w' := by
  by_cases h0 : n = 0
  · have HR := Lib.hid (rok_nil hl h0)
    subst h0
    clear hl hA h64
    go_enter Try.func92, Try.ntmps92
    go_wp2_with fail
    refine (impl_void _ _ _ _).mono ?_
    rintro e w1 ⟨rfl, bl1⟩
    go_wp2
    go_ret
    exact ⟨ret_bool HR.out.symm, below_to (below_one _ _) bl1⟩
  · have HR := Lib.hid (rok_pos hl h0)
    have HF := Lib.hid (fun V (h : Below w.heap.size w V) => impl_from a n cap hs V hl hn h64 (hA.below h))
    have HS := Lib.hid (fun V a1 c1 (h : Below w.heap.size w V) (h1 : HsAt V a1 (regE hs)) => impl_rsame a a1 n (regE hs).length cap c1 hs (regE hs) V hl rfl hn (hA.below h) h1)
    have hb : ((n : Int) == 0) = false := eq_b (by omega)
    clear hl hA h64 h0
    go_enter Try.func92, Try.ntmps92
    go_wp2_with fail
    refine (impl_void _ _ _ _).mono ?_
    rintro e w1 ⟨rfl, bl1⟩
    have b1 := below_to (below_one _ _) bl1
    have q1 := cell_to (show (w.alloc (.cells #[.slice a n cap] 56)).cell? ⟨w.heap.size, 0, none⟩ = some (.slice a n cap) by simp) bl1
    clear bl1
    go_wp2_with fail
    refine (HF.out _ b1).mono ?_
    rintro e w2 ⟨a2, c2, rfl, ho2, bl2⟩
    have b2 := below_to b1 bl2
    have q2 := cell_to q1 bl2
    have lq := block_lt_of_cell q2
    simp only at lq
    have H2 := Lib.hid ho2
    generalize (regE hs).length = m at *
    clear b1 q1 bl2 ho2
    cases hok : okF hs with
    | false =>
      have HR2 := Lib.hid (show rokB hs = false by rw [HR.out, hok]; rfl)
      clear hok
      go_wp2
      go_ret
      exact ⟨ret_bool HR2.out.symm, below_bx2 b2 _⟩
    | true =>
      have HR2 := Lib.hid (show rokB hs = sameB hs (regE hs) by rw [HR.out, hok]; rfl)
      clear hok
      go_wp2_with fail
      refine (HS.out _ _ _ (below_bx2 b2 _) (own_hs (own_below H2.out (below_one _ _)))).mono ?_
      rintro e w3 ⟨rfl, bl3⟩
      rw [← HR2.out]
      go_wp2
      go_ret
      exact ⟨rfl, below_to (below_bx2 b2 _) bl3⟩
set_option maxHeartbeats 1600000 in
theorem spec_rok (a : Option Addr) (n cap : Nat) (hs : List H3) (w : World) (hl : hs.length = n) (hn : n ≤ 1048576) (h64 : ∀ h ∈ hs, In64 h) (hnil : a = none → n = 0 ∧ cap = 0) (hA : HsAt w a hs) :
    Calls Try.prog 74 #[.agg #[.slice a n cap]] w fun e w' => e = .returned (.bool (rokB hs)) ∧ Below w.heap.size w w' := by
  have HF := Lib.hid (fun V (h : Below w.heap.size w V) => spec_from a n cap hs V hl hn h64 hnil (hA.below h))
  have HS := Lib.hid (fun V a1 c1 (h : Below w.heap.size w V) (h1 : HsAt V a1 (regE hs)) => spec_rsame a a1 n (regE hs).length cap c1 hs (regE hs) V hl rfl hn (hA.below h) h1)
  have HL := Lib.hid hl
  clear hl hA h64 hnil
  go_enter Try.func74, Try.ntmps74
  go_wp2_with fail
  refine (HF.out _ (below_one _ _)).mono ?_
  rintro e w2 ⟨a2, c2, rfl, ho2, bl2⟩
  have b2 := below_to (below_one _ _) bl2
  have q2 := cell_to (show (w.alloc (.cells #[.slice a n cap] 56)).cell? ⟨w.heap.size, 0, none⟩ = some (.slice a n cap) by simp) bl2
  have lq := block_lt_of_cell q2
  simp only at lq
  have H2 := Lib.hid ho2
  generalize (regE hs).length = m at *
  clear bl2 ho2
  by_cases h0 : n = 0
  · have HR := Lib.hid (rok_nil HL.out h0)
    subst h0
    generalize okF hs = r at *
    go_wp2
    go_ret
    exact ⟨ret_bool HR.out.symm, below_bx2 b2 _⟩
  · have HR := Lib.hid (rok_pos HL.out h0)
    have hb : ((n : Int) == 0) = false := eq_b (by omega)
    clear h0
    cases hok : okF hs with
    | false =>
      have HR2 := Lib.hid (show rokB hs = false by rw [HR.out, hok]; rfl)
      clear hok
      go_wp2
      go_ret
      exact ⟨ret_bool HR2.out.symm, below_bx2 b2 _⟩
    | true =>
      have HR2 := Lib.hid (show rokB hs = sameB hs (regE hs) by rw [HR.out, hok]; rfl)
      clear hok
      go_wp2_with fail
      refine (HS.out _ _ _ (below_bx2 b2 _) (own_hs (own_below H2.out (below_one _ _)))).mono ?_
      rintro e w3 ⟨rfl, bl3⟩
      rw [← HR2.out]
      go_wp2
      go_ret
      exact ⟨rfl, below_to (below_bx2 b2 _) bl3⟩
theorem rok_all {hs : List H3} (h : rokB hs = true) : ∀ x ∈ hs, okB x = true := by
  unfold rokB at h
  rw [Bool.or_eq_true, decide_eq_true_eq, Bool.and_eq_true] at h
  rcases h with rfl | ⟨h, _⟩
  · simp
  · unfold okF at h
    simp only [Bool.and_eq_true, decide_eq_true_eq] at h
    exact List.all_eq_true.1 h.1.2
/-- whether a spot lies in a region -/
def hasB (hs : List H3) (x y d : Int) : Bool := rokB hs && decide (hs ≠ []) && hs.all (fun h => holdH h.a h.b h.c x y d)
theorem has_nil {hs : List H3} {n : Nat} (hl : hs.length = n) (h : n = 0) (x y d : Int) : hasB hs x y d = false := by
  have : hs = [] := List.eq_nil_of_length_eq_zero (by omega)
  unfold hasB; simp [this]
theorem has_rok {hs : List H3} (h : rokB hs = false) (x y d : Int) : hasB hs x y d = false := by unfold hasB; rw [h]; rfl
theorem has_pos {hs : List H3} {n : Nat} (hl : hs.length = n) (h : n ≠ 0) (r : rokB hs = true) (x y d : Int) : hasB hs x y d = hs.all (fun h => holdH h.a h.b h.c x y d) := by
  have : hs ≠ [] := by rintro rfl; simp at hl; omega
  unfold hasB; rw [r]; simp [this]
theorem hold_no {hs : List H3} {k : Nat} {z : H3} {x y d : Int} (h : hs[k]? = some z) (n : holdH z.a z.b z.c x y d = false) : hs.all (fun h => holdH h.a h.b h.c x y d) = false := by
  rw [List.all_eq_false]; exact ⟨z, List.mem_of_getElem? h, by simp [n]⟩
theorem hold_take {hs : List H3} {k : Nat} {z : H3} {x y d : Int} (h : hs[k]? = some z) (t : holdH z.a z.b z.c x y d = true) (a : (hs.take k).all (fun h => holdH h.a h.b h.c x y d) = true) : (hs.take (k + 1)).all (fun h => holdH h.a h.b h.c x y d) = true := by
  rw [List.take_add_one, h, List.all_append, a]; simp [t]
/-- the model's side of a region: every half plane holds, and there is one -/
def lhaB (hs : List H3) (x y d : Int) : Bool := hs.all (fun h => decide (sideV h.a h.b h.c x y d ≤ 0)) && decide (hs ≠ [])
theorem lha_no {hs : List H3} {k : Nat} {z : H3} {x y d : Int} (h : hs[k]? = some z) (n : 0 < sideV z.a z.b z.c x y d) : lhaB hs x y d = false := by
  unfold lhaB
  rw [Bool.and_eq_false_iff]
  exact Or.inl (by rw [List.all_eq_false]; exact ⟨z, List.mem_of_getElem? h, by simp; omega⟩)
theorem lha_take {hs : List H3} {k : Nat} {z : H3} {x y d : Int} (h : hs[k]? = some z) (t : sideV z.a z.b z.c x y d ≤ 0) (a : (hs.take k).all (fun h => decide (sideV h.a h.b h.c x y d ≤ 0)) = true) : (hs.take (k + 1)).all (fun h => decide (sideV h.a h.b h.c x y d ≤ 0)) = true := by
  rw [List.take_add_one, h, List.all_append, a]; simp [t]
end Go.Proofs.Ytibkmhmeoelpdaa
