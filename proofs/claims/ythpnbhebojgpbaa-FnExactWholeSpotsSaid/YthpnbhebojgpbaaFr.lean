/- The contracts of both FrameHalves functions and of boxHalves over the translation. -/
import Derived.Test.YthpnbhebojgpbaaVl
namespace Go.Proofs.Ythpnbhebojgpbaa
open Go.RowKit
open Geo (H3)

theorem own3_new (w : World) (B : Nat) (e : TypeId) (hs : List H3) (n : Nat) (cs : Array Value) (hl : hs.length = n) (hc : cs = (flat hs).toArray) (hn : n ≤ maxLen) (hB : B ≤ w.heap.size) :
    (w.alloc (.cells cs e)).ownsRow B e 3 (.slice (some ⟨w.heap.size, 0, none⟩) n n) n (flat hs) := by
  subst hc
  refine ⟨by rw [flat_len, hl], .inr ⟨w.heap.size, n, (flat hs).toArray, rfl, hB, heap_alloc_new w _, Nat.le_refl _, hn, by simp [flat_len, hl], ?_⟩⟩
  rw [List.toList_toArray, List.take_of_length_le (by rw [flat_len, hl]; omega)]
/-- a slice of the call's own is handed back -/
def HalW (w : World) (hs : List H3) (n : Nat) (e : Ending) (w' : World) : Prop := ∃ ao cp, e = .returned (.slice ao n cp) ∧ w'.ownsRow w.heap.size 34 3 (.slice ao n cp) n (flat hs) ∧ Below w.heap.size w w'
theorem spec_frame (w : World) : Calls Try.prog 22 #[] w (HalW w Geo.frame 4) := by
  go_enter Try.func22, Try.ntmps22
  go_wp2
  go_ret
  exact ⟨_, _, rfl, own3_new w _ 34 Geo.frame 4 _ rfl rfl (by unfold maxLen; omega) (Nat.le_refl _), below_one _ _⟩
def boxL (x0 y0 x1 y1 : Int) : List H3 := [⟨1, 0, x1⟩, ⟨0, 1, y1⟩, ⟨-1, 0, -x0⟩, ⟨0, -1, -y0⟩]
theorem box_halves (x0 y0 x1 y1 : Int) (w : World) (hx : -1000 ≤ x0) (hx2 : x0 ≤ 1000) (hy : -1000 ≤ y0) (hy2 : y0 ≤ 1000) :
    Calls Try.prog 59 #[.int .i64 x0, .int .i64 y0, .int .i64 x1, .int .i64 y1] w (HalW w (boxL x0 y0 x1 y1) 4) := by
  go_enter Try.func59, Try.ntmps59
  go_wp2
  go_ret
  exact ⟨_, _, rfl, own3_new w _ 34 (boxL x0 y0 x1 y1) 4 _ rfl rfl (by unfold maxLen; omega) (Nat.le_refl _), below_one _ _⟩
theorem impl_frame (w : World) : Calls Try.prog 23 #[] w (HalW w Geo.frame 4) := by
  go_enter Try.func23, Try.ntmps23
  go_wp2_with fail
  refine (box_halves (-1000) (-1000) 1000 1000 w (by omega) (by omega) (by omega) (by omega)).mono ?_
  rintro e w1 ⟨ao, cp, rfl, ho, bl⟩
  have HO := Lib.hid ho
  clear ho
  go_wp2
  go_ret
  exact ⟨ao, cp, rfl, HO.out, bl⟩
set_option maxHeartbeats 1600000 in
theorem law_frame (w : World) : Calls Try.prog 4 #[] w fun e w' => e = .returned (.bool true) ∧ Below w.heap.size w w' := by
  go_enter Try.func4, Try.ntmps4
  go_wp2_with fail
  refine (spec_frame w).mono ?_
  rintro e w1 ⟨ao1, cp1, rfl, ho1, bl1⟩
  have H1 := Lib.hid ho1
  clear ho1
  go_wp2_with fail
  refine (impl_frame w1).mono ?_
  rintro e w2 ⟨ao2, cp2, rfl, ho2, bl2⟩
  have H2 := Lib.hid ho2
  clear ho2
  go_wp2_with fail
  refine (eq_halves ao2 ao1 4 cp2 cp1 Geo.frame w2 rfl (by omega) (own_hs H2.out) (own_hs (own_below H1.out bl2))).mono ?_
  rintro e w3 ⟨rfl, bl3⟩
  have H3 := Lib.hid (own_below H2.out bl3)
  have b3 := below_to bl2 bl3
  clear H2 bl2 bl3
  go_wp2_with fail
  refine (mark_halves _ 4 w1.heap.size Geo.frame w3 (by omega) H3.out).mono ?_
  rintro e w4 ⟨rfl, ho4, bl4⟩
  have H4 := Lib.hid ho4
  have b4 := b3.trans bl4
  clear ho4 H3 b3 bl4
  go_wp2_with fail
  refine (held_halves ao2 4 cp2 w4 (by omega) (own_hs H4.out)).mono ?_
  rintro e w5 ⟨rfl, rfl⟩
  go_wp2_with fail
  refine (impl_frame w4).mono ?_
  rintro e w6 ⟨ao6, cp6, rfl, ho6, bl6⟩
  have H6 := Lib.hid ho6
  have K6 := Lib.hid (own_below H4.out bl6)
  have b6 := b4.trans (bl6.mono b4.size)
  clear ho6 H4 bl6
  go_wp2_with fail
  refine (eq_halves ao6 ao1 4 cp6 cp1 Geo.frame w6 rfl (by omega) (own_hs H6.out) (own_hs (own_below H1.out b6))).mono ?_
  rintro e w7 ⟨rfl, bl7⟩
  have K7 := Lib.hid (own_below K6.out bl7)
  have b7 := b6.trans (bl7.mono b6.size)
  clear K6 H6 b6 bl7 H1
  go_wp2_with fail
  refine (held_halves ao2 4 cp2 w7 (by omega) (own_hs K7.out)).mono ?_
  rintro e w8 ⟨rfl, rfl⟩
  go_wp2
  go_ret
  exact ⟨rfl, below_to bl1 b7⟩
end Go.Proofs.Ythpnbhebojgpbaa
