/- Slices of ints: the laws' toIntS and eqIntS, and whether four ints and a divisor are a map, over the translation. -/
import Derived.Test.YtibkmhmeoelpdaaIj
import Derived.Test.YtibkmhmeoelpdaaSk
import Derived.ProofKit
import Derived.OpenShut
namespace Go.Proofs.Ytibkmhmeoelpdaa
open Go.RowKit
open Geo (H3)

theorem Try.info3i : (Try.prog.info? 3).map (fun i => (i.zero, i.size, i.bytes)) = some (some (.int .i64 0), 1, 8) := by kernel_rfl
theorem own_ints {w : World} {B n cap : Nat} {ao : Option Addr} {zs : List Int} (h : w.ownsRow B 3 1 (.slice ao n cap) n (zs.map (Value.int .i64))) : IsAt w ao zs := by
  intro i z hz
  have hl : zs.length = n := by have := h.1; simpa using this
  have hi : i < n := by rw [← hl]; exact (List.getElem?_eq_some_iff.1 hz).1
  obtain ⟨g, cap', e⟩ := own_row h (by omega)
  simp only [Value.slice.injEq, true_and] at e
  obtain ⟨rfl, rfl⟩ := e
  obtain ⟨⟨u, hu, hx⟩, _⟩ := own_cell h i hi
  rw [List.getElem?_map, hz] at hx
  simp at hx
  exact ⟨g, 0, rfl, by rw [Nat.zero_add, hu, ← hx]⟩
theorem set_takeI (ys : List Value) (k : Nat) (u : Value) (h : k < ys.length) : (ys.set k u).take (k + 1) = ys.take k ++ [u] := by
  rw [List.take_add_one, List.getElem?_set_self h, List.take_set_of_le (Nat.le_refl _)]
  rfl
theorem map_takeI (xs : List Int) (k : Nat) (x : Int) (h : xs[k]? = some x) : (xs.take (k + 1)).map (Value.int .i64) = (xs.take k).map (Value.int .i64) ++ [.int .i64 x] := by
  rw [List.take_add_one, h]; simp
/-- a new row of the same ints -/
def GivesI (w : World) (zs : List Int) (n : Nat) (e : Ending) (w' : World) : Prop := ∃ ao cp, e = .returned (.slice ao n cp) ∧ w'.ownsRow w.heap.size 3 1 (.slice ao n cp) n (zs.map (Value.int .i64)) ∧ Below w.heap.size w w'
set_option maxHeartbeats 1600000 in
theorem to_ints (a : Option Addr) (n cap : Nat) (zs : List Int) (w : World) (hl : zs.length = n) (hn : n ≤ 1048576) (hA : IsAt w a zs) :
    Calls Try.prog 53 #[.slice a n cap] w (GivesI w zs n) := by
  obtain ⟨i0, hi, hz0, hz1, hz2⟩ := info_parts Try.info3i
  have HL := Lib.hid hl
  have HA := Lib.hid hA
  clear hl hA
  go_enter Try.func53, Try.ntmps53
  go_wp2_with (at_make; refine wpList_make_full _ rfl _ _ 43 rfl w.heap.size 3 i0 (.int .i64 0) 1 Try.underlying43 hi hz0 hz1 .i64 .i64 _ _ n rfl rfl rfl rfl (by rw [hz2]; omega) (by unfold maxLen; omega) (Nat.le_refl _) ?_)
  intro w1 hown hgrow
  have hb1 : Below w.heap.size w w1 := (Below.refl _ _).grown hgrow (Nat.le_refl _) (fun g hg => by cases hg)
  have hyl : (madeCells #[Value.int .i64 0] n).toList.length = n := by have := hown.1; simpa using this
  generalize (madeCells #[Value.int .i64 0] n).toList = y0 at *
  have HO := Lib.hid hown
  have HY := Lib.hid hyl
  clear hown hyl hgrow
  go_wp2
  go_loopw [4] (fun i wr => ∃ (k : Nat) (ys : List Value), k ≤ n ∧ i = .int .i64 k ∧ ys.length = n ∧ ys.take k = (zs.take k).map (Value.int .i64) ∧ wr.ownsRow w.heap.size 3 1 (.slice (some ⟨w.heap.size, 0, none⟩) n n) n ys ∧ Below w.heap.size w wr) (fun i _ => n - (intOf i).toNat)
  case atStart => exact ⟨0, y0, Nat.zero_le _, rfl, HY.out, by simp, HO.out, hb1⟩
  case round =>
    obtain ⟨k, ys, hk, rfl, hyl, hyt, ho, hbel⟩ := hrel
    have H1 := Lib.hid hyl
    have H2 := Lib.hid hyt
    have H3 := Lib.hid ho
    clear hyl hyt ho
    by_cases hlt : k < n
    · obtain ⟨x, hxk⟩ : ∃ x, zs[k]? = some x := ⟨_, List.getElem?_eq_getElem (by rw [HL.out]; exact hlt)⟩
      obtain ⟨g, o, rfl, hc⟩ := HA.out k x hxk
      have hc2 := cell_to hc hbel
      have hgw := block_lt_of_cell hc
      simp only at hgw
      obtain ⟨⟨u, hc3, _⟩, hf, _, hgl⟩ := own_cell H3.out k hlt
      have H4 := Lib.hid (own_set H3.out k (.int .i64 x))
      have H5 := Lib.hid (set_takeI ys k (.int .i64 x) (by rw [H1.out]; exact hlt))
      have H6 := Lib.hid (map_takeI zs k x hxk)
      clear hc hxk
      go_wp2
      go_roundw
      case rel => exact ⟨k + 1, _, by omega, by go_num, by rw [List.length_set]; exact H1.out, by rw [H5.out, H6.out, H2.out], H4.out, hbel.setCell (Nat.le_refl _) _⟩
      case measure => simp [intOf]; omega
    · have hkn : k = n := by omega
      subst hkn
      have HE := Lib.hid (show ys = zs.map (Value.int .i64) by
        have := H2.out
        rwa [List.take_of_length_le (by rw [H1.out]; exact Nat.le_refl _), List.take_of_length_le (by rw [HL.out]; exact Nat.le_refl _)] at this)
      rw [HE.out] at H3
      go_wp2
      go_ret
      exact ⟨_, _, rfl, H3.out, hbel⟩
set_option maxHeartbeats 1600000 in
theorem eq_ints (a b : Option Addr) (n ca cb : Nat) (zs : List Int) (w : World) (hl : zs.length = n) (hn : n ≤ 1048576) (hA : IsAt w a zs) (hB : IsAt w b zs) :
    Calls Try.prog 59 #[.slice a n ca, .slice b n cb] w fun e w' => e = .returned (.bool true) ∧ Below w.heap.size w w' := by
  have HL := Lib.hid hl
  have HA := Lib.hid hA
  have HB := Lib.hid hB
  clear hl hA hB
  go_enter Try.func59, Try.ntmps59
  go_wp2
  go_loopw [5] (fun i wr => ∃ k : Nat, k ≤ n ∧ i = .int .i64 k ∧ Below w.heap.size w wr) (fun i _ => n - (intOf i).toNat)
  case atStart => exact ⟨0, Nat.zero_le _, rfl, Below.refl _ _⟩
  case round =>
    obtain ⟨k, hk, rfl, hbel⟩ := hrel
    by_cases hlt : k < n
    · obtain ⟨x, hx⟩ : ∃ x, zs[k]? = some x := ⟨_, List.getElem?_eq_getElem (by rw [HL.out]; exact hlt)⟩
      obtain ⟨g, o, rfl, hc⟩ := HA.out k _ hx
      obtain ⟨g2, o2, rfl, hc2⟩ := HB.out k _ hx
      have hp := cell_to hc hbel
      have hq := cell_to hc2 hbel
      clear hx hc hc2
      go_wp2
      go_quiet (fail)
      go_wp2
      go_roundw
      case rel => exact ⟨k + 1, by omega, by go_num, below_drew hbel _⟩
      case measure => simp [intOf]; omega
    · go_wp2
      go_ret
      exact ⟨rfl, hbel⟩
/-- four ints from -20 to 20 and a divisor from 1 to 20 -/
def mapB (zs : List Int) (q : Int) : Bool := decide (zs.length = 4) && inB q 1 20 && zs.all (fun z => inB z (-20) 20)
theorem map_len {zs : List Int} {q : Int} {n : Nat} (hl : zs.length = n) (h : n ≠ 4) : mapB zs q = false := by unfold mapB; rw [hl]; simp [h]
theorem map_q {zs : List Int} {q : Int} (h : inB q 1 20 = false) : mapB zs q = false := by unfold mapB; rw [h]; simp
theorem map_no {zs : List Int} {q : Int} {k : Nat} {z : Int} (h : zs[k]? = some z) (e : inB z (-20) 20 = false) : mapB zs q = false := by
  have : zs.all (fun z => inB z (-20) 20) = false := by rw [List.all_eq_false]; exact ⟨z, List.mem_of_getElem? h, by simp [e]⟩
  unfold mapB; rw [this]; simp
theorem map_tk {zs : List Int} {k : Nat} {z : Int} (h : zs[k]? = some z) (e : inB z (-20) 20 = true) (t : (zs.take k).all (fun z => inB z (-20) 20) = true) : (zs.take (k + 1)).all (fun z => inB z (-20) 20) = true := by
  rw [List.take_add_one, h, List.all_append, t]; simp [e]
set_option maxHeartbeats 1600000 in
theorem impl_map (a : Option Addr) (n cap : Nat) (zs : List Int) (q : Int) (w : World) (hl : zs.length = n) (hA : IsAt w a zs) :
    Calls Try.prog 88 #[.slice a n cap, .int .i64 q] w fun e w' => e = .returned (.bool (mapB zs q)) ∧ w' = w := by
  have HL := Lib.hid hl
  have HA := Lib.hid hA
  clear hl hA
  by_cases h4 : n = 4
  · subst h4
    cases hq : inB q 1 20 with
    | false =>
      have HI := Lib.hid (fun W => in_impl_is q 1 20 W false hq)
      have HN := Lib.hid (map_q (zs := zs) hq)
      clear hq
      go_enter Try.func88, Try.ntmps88
      go_wp2_with fail
      refine (HI.out _).mono ?_
      rintro e w1 ⟨rfl, rfl⟩
      go_wp2
      go_ret
      exact ⟨ret_bool HN.out.symm, rfl⟩
    | true =>
      have HI := Lib.hid (fun W => in_impl_is q 1 20 W true hq)
      have HQ := Lib.hid hq
      clear hq
      go_enter Try.func88, Try.ntmps88
      go_wp2_with fail
      refine (HI.out _).mono ?_
      rintro e w1 ⟨rfl, rfl⟩
      clear HI
      go_wp2
      go_loop [17] (fun i => ∃ k : Nat, k ≤ 4 ∧ i = .int .i64 k ∧ (zs.take k).all (fun z => inB z (-20) 20) = true) (fun i => 4 - (intOf i).toNat)
      case atStart => exact ⟨0, Nat.zero_le _, rfl, by simp⟩
      case round =>
        obtain ⟨k, hk, rfl, ht⟩ := hrel
        have HT := Lib.hid ht
        clear ht
        by_cases hlt : k < 4
        · obtain ⟨x, hx⟩ : ∃ x, zs[k]? = some x := ⟨_, List.getElem?_eq_getElem (by rw [HL.out]; exact hlt)⟩
          obtain ⟨g, o, rfl, hc⟩ := HA.out k _ hx
          cases he : inB x (-20) 20 with
          | false =>
            have HI := Lib.hid (fun W => in_impl_is x (-20) 20 W false he)
            have HN := Lib.hid (map_no (q := q) hx he)
            clear he hx
            go_wp2_with fail
            refine (HI.out _).mono ?_
            rintro e w2 ⟨rfl, rfl⟩
            go_wp2
            go_ret
            exact ⟨ret_bool HN.out.symm, rfl⟩
          | true =>
            have HI := Lib.hid (fun W => in_impl_is x (-20) 20 W true he)
            have HN := Lib.hid (map_tk hx he HT.out)
            clear he hx
            go_wp2_with fail
            refine (HI.out _).mono ?_
            rintro e w2 ⟨rfl, rfl⟩
            go_wp2
            go_round
            case rel => exact ⟨k + 1, by omega, by go_num, HN.out⟩
            case measure => simp [intOf]; omega
        · have hk4 : k = 4 := by omega
          subst hk4
          have HN := Lib.hid (show mapB zs q = true by
            have := HT.out
            rw [List.take_of_length_le (by rw [HL.out]; exact Nat.le_refl _)] at this
            unfold mapB; rw [HL.out, HQ.out, this]; rfl)
          go_wp2
          go_ret
          exact ⟨ret_bool HN.out.symm, rfl⟩
  · have HN := Lib.hid (map_len (q := q) HL.out h4)
    have hb : ((n : Int) == 4) = false := eq_b (by omega)
    go_enter Try.func88, Try.ntmps88
    go_wp2
    go_ret
    exact ⟨ret_bool HN.out.symm, rfl⟩
set_option maxHeartbeats 1600000 in
theorem spec_map (a : Option Addr) (n cap : Nat) (zs : List Int) (q : Int) (w : World) (hl : zs.length = n) (hA : IsAt w a zs) :
    Calls Try.prog 73 #[.slice a n cap, .int .i64 q] w fun e w' => e = .returned (.bool (mapB zs q)) ∧ w' = w := by
  have HL := Lib.hid hl
  have HA := Lib.hid hA
  clear hl hA
  by_cases h4 : n = 4
  · subst h4
    cases hq : inB q 1 20 with
    | false =>
      have HI := Lib.hid (fun W => in_spec_is q 1 20 W false hq)
      have HN := Lib.hid (map_q (zs := zs) hq)
      clear hq
      go_enter Try.func73, Try.ntmps73
      go_wp2_with fail
      refine (HI.out _).mono ?_
      rintro e w1 ⟨rfl, rfl⟩
      go_wp2
      go_ret
      exact ⟨ret_bool HN.out.symm, rfl⟩
    | true =>
      have HI := Lib.hid (fun W => in_spec_is q 1 20 W true hq)
      have HQ := Lib.hid hq
      clear hq
      go_enter Try.func73, Try.ntmps73
      go_wp2_with fail
      refine (HI.out _).mono ?_
      rintro e w1 ⟨rfl, rfl⟩
      clear HI
      go_wp2
      go_loop [17] (fun i => ∃ k : Nat, k ≤ 4 ∧ i = .int .i64 k ∧ (zs.take k).all (fun z => inB z (-20) 20) = true) (fun i => 4 - (intOf i).toNat)
      case atStart => exact ⟨0, Nat.zero_le _, rfl, by simp⟩
      case round =>
        obtain ⟨k, hk, rfl, ht⟩ := hrel
        have HT := Lib.hid ht
        clear ht
        by_cases hlt : k < 4
        · obtain ⟨x, hx⟩ : ∃ x, zs[k]? = some x := ⟨_, List.getElem?_eq_getElem (by rw [HL.out]; exact hlt)⟩
          obtain ⟨g, o, rfl, hc⟩ := HA.out k _ hx
          cases he : inB x (-20) 20 with
          | false =>
            have HI := Lib.hid (fun W => in_spec_is x (-20) 20 W false he)
            have HN := Lib.hid (map_no (q := q) hx he)
            clear he hx
            go_wp2_with fail
            refine (HI.out _).mono ?_
            rintro e w2 ⟨rfl, rfl⟩
            go_wp2
            go_ret
            exact ⟨ret_bool HN.out.symm, rfl⟩
          | true =>
            have HI := Lib.hid (fun W => in_spec_is x (-20) 20 W true he)
            have HN := Lib.hid (map_tk hx he HT.out)
            clear he hx
            go_wp2_with fail
            refine (HI.out _).mono ?_
            rintro e w2 ⟨rfl, rfl⟩
            go_wp2
            go_round
            case rel => exact ⟨k + 1, by omega, by go_num, HN.out⟩
            case measure => simp [intOf]; omega
        · have hk4 : k = 4 := by omega
          subst hk4
          have HN := Lib.hid (show mapB zs q = true by
            have := HT.out
            rw [List.take_of_length_le (by rw [HL.out]; exact Nat.le_refl _)] at this
            unfold mapB; rw [HL.out, HQ.out, this]; rfl)
          go_wp2
          go_ret
          exact ⟨ret_bool HN.out.symm, rfl⟩
  · have HN := Lib.hid (map_len (q := q) HL.out h4)
    have hb : ((n : Int) == 4) = false := eq_b (by omega)
    go_enter Try.func73, Try.ntmps73
    go_wp2
    go_ret
    exact ⟨ret_bool HN.out.symm, rfl⟩
open Go.ChangeShapes Go.WideShapes Go.ChangeAt in
/-- a slice of ints that came in -/
theorem open_ilist {H : Type} {enc : TypeId × Value → H} {P : Program} {W : World} {base : Nat} {t e : TypeId} {held : Bool} {a : Option Addr} {len cap : Nat} {d : DataW H} {p : List MemPlace}
    (ht : P.underlying t = some (.slice e)) (he : P.underlying e = some (.int .i64)) (hc : P.cellsOf e = 1)
    (h : DataW.Trod enc P W base (fun _ => true) held t (.slice a len cap) d p) : ∃ zs : List Int, zs.length = len ∧ len ≤ maxLen ∧ (∀ z ∈ zs, (Lit.int .i64 z).wf = true) ∧ IsAt W a zs := by
  obtain ⟨fuel, hf⟩ := h
  rcases open_ints ht he hc hf with ⟨hcs, _⟩ | ⟨x, l, c, zs, hcs, _, hl, hm, hz, _, hcell, hwz⟩
  · simp [Value.cells] at hcs
    obtain ⟨rfl, rfl, rfl⟩ := hcs
    exact ⟨[], rfl, Nat.zero_le _, by simp, fun i z hz => by simp at hz⟩
  · simp [Value.cells] at hcs
    obtain ⟨rfl, rfl, rfl⟩ := hcs
    have hz' : zs.length = cap := by simpa using hz
    refine ⟨zs.take len, by rw [List.length_take]; omega, by omega, fun z hz => hwz z (List.mem_of_mem_take hz), ?_⟩
    intro j z hj
    have hjl : j < (zs.take len).length := (List.getElem?_eq_some_iff.1 hj).1
    rw [List.length_take] at hjl
    obtain ⟨b, off, spot⟩ := x
    have h00 := hcell 0 (by omega)
    have hspot : spot = none := by simpa [Addr.add] using World.cell?_spot h00
    subst hspot
    have hc0 := hcell j (by omega)
    have hadd : (⟨b, off, none⟩ : Addr).add j = ⟨b, off + j, none⟩ := by unfold Addr.add; split <;> simp_all
    rw [hadd] at hc0
    rw [List.getElem?_take_of_lt (by omega)] at hj
    rw [List.getD_eq_getElem?_getD, hj] at hc0
    exact ⟨b, off, rfl, hc0⟩
end Go.Proofs.Ytibkmhmeoelpdaa
