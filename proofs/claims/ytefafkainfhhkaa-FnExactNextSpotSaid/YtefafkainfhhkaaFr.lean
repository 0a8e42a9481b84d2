/- The contracts of both FrameHalves functions and of boxHalves over the translation. -/
import Derived.Test.YtefafkainfhhkaaVm
namespace Go.Proofs.Ytefafkainfhhkaa
open Go.RowKit
open Geo (H3)

theorem own3_new (w : World) (B : Nat) (e : TypeId) (hs : List H3) (n : Nat) (cs : Array Value) (hl : hs.length = n) (hc : cs = (flat hs).toArray) (hn : n ≤ maxLen) (hB : B ≤ w.heap.size) :
    (w.alloc (.cells cs e)).ownsRow B e 3 (.slice (some ⟨w.heap.size, 0, none⟩) n n) n (flat hs) := by
  subst hc
  refine ⟨by rw [flat_len, hl], .inr ⟨w.heap.size, n, (flat hs).toArray, rfl, hB, heap_alloc_new w _, Nat.le_refl _, hn, by simp [flat_len, hl], ?_⟩⟩
  rw [List.toList_toArray, List.take_of_length_le (by rw [flat_len, hl]; omega)]
/-- a slice of the call's own is handed back -/
def HalW (w : World) (hs : List H3) (n : Nat) (e : Ending) (w' : World) : Prop := ∃ ao cp, e = .returned (.slice ao n cp) ∧ w'.ownsRow w.heap.size 88 3 (.slice ao n cp) n (flat hs) ∧ Below w.heap.size w w'
theorem spec_frame (w : World) : Calls Try.prog 129 #[] w (HalW w Geo.frame 4) := by
  go_enter Try.func129, Try.ntmps129
  go_wp2
  go_ret
  exact ⟨_, _, rfl, own3_new w _ 88 Geo.frame 4 _ rfl rfl (by unfold maxLen; omega) (Nat.le_refl _), below_one _ _⟩
def boxL (x0 y0 x1 y1 : Int) : List H3 := [⟨1, 0, x1⟩, ⟨0, 1, y1⟩, ⟨-1, 0, -x0⟩, ⟨0, -1, -y0⟩]
theorem box_halves (x0 y0 x1 y1 : Int) (w : World) (hx : -1000 ≤ x0) (hx2 : x0 ≤ 1000) (hy : -1000 ≤ y0) (hy2 : y0 ≤ 1000) :
    Calls Try.prog 147 #[.int .i64 x0, .int .i64 y0, .int .i64 x1, .int .i64 y1] w (HalW w (boxL x0 y0 x1 y1) 4) := by
  go_enter Try.func147, Try.ntmps147
  go_wp2
  go_ret
  exact ⟨_, _, rfl, own3_new w _ 88 (boxL x0 y0 x1 y1) 4 _ rfl rfl (by unfold maxLen; omega) (Nat.le_refl _), below_one _ _⟩
theorem impl_frame (w : World) : Calls Try.prog 132 #[] w (HalW w Geo.frame 4) := by
  go_enter Try.func132, Try.ntmps132
  go_wp2_with fail
  refine (box_halves (-1000) (-1000) 1000 1000 w (by omega) (by omega) (by omega) (by omega)).mono ?_
  rintro e w1 ⟨ao, cp, rfl, ho, bl⟩
  have HO := Lib.hid ho
  clear ho
  go_wp2
  go_ret
  exact ⟨ao, cp, rfl, HO.out, bl⟩
end Go.Proofs.Ytefafkainfhhkaa
