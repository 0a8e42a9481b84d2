/- Slices of ints: the laws' toIntS and eqIntS, and whether four ints and a divisor are a map, over the translation. -/
import Derived.Test.YtibkmhmeoelpdaaGreatIj
import Derived.Test.YtibkmhmeoelpdaaGreatSk
import Derived.ProofKit
import Derived.OpenShut
namespace Go.Proofs.YtibkmhmeoelpdaaGreat
open Go.RowKit
open Geo (H3)
theorem own_ints {w : World} {B n cap : Nat} {ao : Option Addr} {zs : List Int} (h : w.ownsRow B 3 1 (.slice ao n cap) n (zs.map (Value.int .i64))) : IsAt w ao zs := by
  intro i z hz
  have hl : zs.length = n := by have := h.1; simpa using this
  have hi : i < n := by rw [← hl]; exact (List.getElem?_eq_some_iff.1 hz).1
  obtain ⟨g, cap', e⟩ := own_row h (by omega)
  simp only [Value.slice.injEq, true_and] at e
  obtain ⟨rfl, rfl⟩ := e
  obtain ⟨⟨u, hu, hx⟩, _⟩ := own_cell h i hi
  rw [List.getElem?_map, hz] at hx
  simp at hx
  exact ⟨g, 0, rfl, by rw [Nat.zero_add, hu, ← hx]⟩
/-- four ints from -20 to 20 and a divisor from 1 to 20 -/
def mapB (zs : List Int) (q : Int) : Bool := decide (zs.length = 4) && inB q 1 20 && zs.all (fun z => inB z (-20) 20)
theorem map_len {zs : List Int} {q : Int} {n : Nat} (hl : zs.length = n) (h : n ≠ 4) : mapB zs q = false := by unfold mapB; rw [hl]; simp [h]
theorem map_q {zs : List Int} {q : Int} (h : inB q 1 20 = false) : mapB zs q = false := by unfold mapB; rw [h]; simp
theorem map_no {zs : List Int} {q : Int} {k : Nat} {z : Int} (h : zs[k]? = some z) (e : inB z (-20) 20 = false) : mapB zs q = false := by
  have : zs.all (fun z => inB z (-20) 20) = false := by rw [List.all_eq_false]; exact ⟨z, List.mem_of_getElem? h, by simp [e]⟩
  unfold mapB; rw [this]; simp
theorem map_tk {zs : List Int} {k : Nat} {z : Int} (h : zs[k]? = some z) (e : inB z (-20) 20 = true) (t : (zs.take k).all (fun z => inB z (-20) 20) = true) : (zs.take (k + 1)).all (fun z => inB z (-20) 20) = true := by
  rw [List.take_add_one, h, List.all_append, t]; simp [e]
set_option maxHeartbeats 1600000 in
theorem impl_map (a : Option Addr) (n cap : Nat) (zs : List Int) (q : Int) (w : World) (hl : zs.length = n) (hA : IsAt w a zs) :
    Calls Tryz.prog 114 #[.slice a n cap, .int .i64 q] w fun e w' => e = .returned (.bool (mapB zs q)) ∧ w' = w := by
  have HL := Lib.hid hl
  have HA := Lib.hid hA
  clear hl hA
  by_cases h4 : n = 4
  · subst h4
    cases hq : inB q 1 20 with
    | false =>
      have HI := Lib.hid (fun W => in_impl_is q 1 20 W false hq)
      have HN := Lib.hid (map_q (zs := zs) hq)
      clear hq
      go_enter Tryz.func114, Tryz.ntmps114
      go_wp2_with fail
      refine (HI.out _).mono ?_
      rintro e w1 ⟨rfl, rfl⟩
      go_wp2
      go_ret
      exact ⟨ret_bool HN.out.symm, rfl⟩
    | true =>
      have HI := Lib.hid (fun W => in_impl_is q 1 20 W true hq)
      have HQ := Lib.hid hq
      clear hq
      go_enter Tryz.func114, Tryz.ntmps114
      go_wp2_with fail
      refine (HI.out _).mono ?_
      rintro e w1 ⟨rfl, rfl⟩
      clear HI
      go_wp2
      go_loop [17] (fun i => ∃ k : Nat, k ≤ 4 ∧ i = .int .i64 k ∧ (zs.take k).all (fun z => inB z (-20) 20) = true) (fun i => 4 - (intOf i).toNat)
      case atStart => exact ⟨0, Nat.zero_le _, rfl, by simp⟩
      case round =>
        obtain ⟨k, hk, rfl, ht⟩ := hrel
        have HT := Lib.hid ht
        clear ht
        by_cases hlt : k < 4
        · obtain ⟨x, hx⟩ : ∃ x, zs[k]? = some x := ⟨_, List.getElem?_eq_getElem (by rw [HL.out]; exact hlt)⟩
          obtain ⟨g, o, rfl, hc⟩ := HA.out k _ hx
          cases he : inB x (-20) 20 with
          | false =>
            have HI := Lib.hid (fun W => in_impl_is x (-20) 20 W false he)
            have HN := Lib.hid (map_no (q := q) hx he)
            clear he hx
            go_wp2_with fail
            refine (HI.out _).mono ?_
            rintro e w2 ⟨rfl, rfl⟩
            go_wp2
            go_ret
            exact ⟨ret_bool HN.out.symm, rfl⟩
          | true =>
            have HI := Lib.hid (fun W => in_impl_is x (-20) 20 W true he)
            have HN := Lib.hid (map_tk hx he HT.out)
            clear he hx
            go_wp2_with fail
            refine (HI.out _).mono ?_
            rintro e w2 ⟨rfl, rfl⟩
            go_wp2
            go_round
            case rel => exact ⟨k + 1, by omega, by go_num, HN.out⟩
            case measure => simp [intOf]; omega
        · have hk4 : k = 4 := by omega
          subst hk4
          have HN := Lib.hid (show mapB zs q = true by
            have := HT.out
            rw [List.take_of_length_le (by rw [HL.out]; exact Nat.le_refl _)] at this
            unfold mapB; rw [HL.out, HQ.out, this]; rfl)
          go_wp2
          go_ret
          exact ⟨ret_bool HN.out.symm, rfl⟩
  · have HN := Lib.hid (map_len (q := q) HL.out h4)
    have hb : ((n : Int) == 4) = false := eq_b (by omega)
    go_enter Tryz.func114, Tryz.ntmps114
    go_wp2
    go_ret
    exact ⟨ret_bool HN.out.symm, rfl⟩
end Go.Proofs.YtibkmhmeoelpdaaGreat
