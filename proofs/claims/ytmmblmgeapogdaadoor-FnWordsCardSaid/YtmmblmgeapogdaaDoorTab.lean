/- The contract of the program's bytesIn over the translation. -/
import Derived.Test.YtmmblmgeapogdaaDoorSplit
import Derived.Lib.AsciiSet
import Derived.Deep.WholeRow
import Derived.Laws.ResultCell
import Derived.Laws.CopyOwn
namespace Go.Proofs.YtmmblmgeapogdaaDoor
open Go.RowKit

theorem zero36 (w : World) : (zeroValue 46).run Tryd.prog w = .ok (.agg (Lib.setCells [])) w := by kernel_rfl
theorem size36 : (Tryd.prog.info? 46).map (·.size) = some 256 := by kernel_rfl
theorem agg36 (w : World) : (isAgg 46).run Tryd.prog w = .ok true w := by kernel_rfl
theorem cells36 (w : World) : (sizeOf 46).run Tryd.prog w = .ok 256 w := by kernel_rfl

theorem storeCells_row (w : World) (g : Nat) (c c' : Array Value) (hg : w.heap[g]? = some (.cells c 46 (0, 0))) (hc : c.size = 256) (hc' : c'.size = 256) (h1 : c'.all (·.oneCell') = true) :
    (storeCells ⟨g, 0, none⟩ c'.toList 0).run Tryd.prog w = .ok () (w.setRow g c') := by
  have := run_storeVar_row (P := Tryd.prog) w g 46 46 c c' hg (by rw [hc']; exact size36) (by omega) h1
  have hi := size36
  cases hq : Tryd.prog.info? 46 with
  | none => simp [hq] at hi
  | some i =>
    have hs : c'.size = i.size := by simp [hq] at hi; omega
    simpa [storeVar, sizeOf, typeInfo, hq, Value.cells, hs] using this

theorem setRow_same (w : World) (g : Nat) (c c' : Array Value) (h : w.heap[g]? = some (.cells c 46 (0, 0))) : (w.setRow g c').heap[g]? = some (.cells c' 46 (0, 0)) := by
  have hlt := lt_of_block h
  have h' : w.heap[g] = .cells c 46 (0, 0) := by simpa [Array.getElem?_eq_getElem hlt] using h
  show (w.heap.modify g _)[g]? = _
  rw [Array.getElem?_eq_getElem (by simpa using hlt), Array.getElem_modify_self, h']

set_option maxHeartbeats 800000 in
theorem bytes_in (by' : ByteArray) (w : World) (hby : by'.size ≤ 1048576) :
    Calls Tryd.prog 24 #[.string by'] w fun e w' => e = .returned (.agg (Lib.setCells by'.data.toList)) ∧ Below w.heap.size w w' := by
  have hz := zero36
  have hA : ((w.alloc (.cells (Lib.setCells []) 46)).alloc (.cells (Lib.setCells []) 46)).heap[w.heap.size]? = some (.cells (Lib.setCells []) 46 (0, 0)) := heap_alloc2_old w _ _
  have hB : ((w.alloc (.cells (Lib.setCells []) 46)).alloc (.cells (Lib.setCells []) 46)).heap[w.heap.size + 1]? = some (.cells (Lib.setCells []) 46 (0, 0)) := heap_alloc2_new w _ _
  have hC : Below w.heap.size w ((w.alloc (.cells (Lib.setCells []) 46)).alloc (.cells (Lib.setCells []) 46)) := ((Below.refl _ w).alloc (Nat.le_refl _) _).alloc (by simp) _
  have HA := Lib.hid hA
  have HB := Lib.hid hB
  clear hA hB
  go_enter Tryd.func24, Tryd.ntmps24
  go_wp2
  go_loopw [4, 7] (fun _ i wr => ∃ k : Nat, k ≤ by'.size ∧ i = .int .i64 k ∧ wr.heap[w.heap.size]? = some (.cells (Lib.setCells []) 46 (0, 0)) ∧ wr.heap[w.heap.size + 1]? = some (.cells (Lib.setCells (by'.data.toList.take k)) 46 (0, 0)) ∧ Below w.heap.size w wr) (fun _ i _ => by'.size - (intOf i).toNat)
  case atStart => exact ⟨0, Nat.zero_le _, rfl, HA.out, HB.out, hC⟩
  case round =>
    obtain ⟨k, hk, rfl, h1, h2, hbel⟩ := hrel
    have H1 := Lib.hid h1
    have H2 := Lib.hid h2
    clear h1 h2 hC
    by_cases hlt : k < by'.size
    · have hc : wr.cell? ⟨w.heap.size + 1, by'[k].toNat, none⟩ = some (.bool ((by'.data.toList.take k).contains by'[k])) := by
        rw [cell_of_row wr _ _ _ _ _ H2.out]; exact Lib.setCells_at _ _
      have hf := frozen_of_row wr (w.heap.size + 1) by'[k].toNat _ _ H2.out
      have hx : by'[k].toNat < 256 := by'[k].toNat_lt
      have hsz := lt_of_block H2.out
      have HS := Lib.hid (show Lib.setCells (by'.data.toList.take (k + 1)) = (Lib.setCells (by'.data.toList.take k)).setIfInBounds by'[k].toNat (.bool true) by
        rw [take_snoc by' k hlt, Lib.setCells_snoc])
      have HR := Lib.hid (heap_setCell_same wr (w.heap.size + 1) by'[k].toNat _ 46 (.bool true) H2.out)
      have HQ := Lib.hid (heap_setCell_other wr ⟨w.heap.size + 1, by'[k].toNat, none⟩ w.heap.size (.bool true) (by simp))
      go_wp2
      go_roundw
      case rel => exact ⟨k + 1, by omega, by go_num, by rw [HQ.out]; exact H1.out, by rw [HR.out, HS.out], hbel.setCell (by simp) _⟩
      case measure => simp [intOf]; omega
    · have hkn : k = by'.size := by omega
      have e : by'.data.toList.take k = by'.data.toList := List.take_of_length_le (by simp; omega)
      rw [e] at H2
      clear e hkn
      have hsz := Lib.setCells_size by'.data.toList
      have hs0 := Lib.setCells_size []
      have HI := Lib.hid (show (Tryd.prog.info? 46).map (·.size) = some (Lib.setCells by'.data.toList).size by rw [hsz]; exact size36)
      have HS := Lib.hid (show (Lib.setCells []).size = (Lib.setCells by'.data.toList).size by rw [hsz, hs0])
      have HO := Lib.hid (Lib.setCells_one by'.data.toList)
      have HR := Lib.hid (setRow_same wr w.heap.size _ (Lib.setCells by'.data.toList) H1.out)
      have HB2 := Lib.hid (below_setRow hbel (Nat.le_refl _) (Lib.setCells by'.data.toList))
      clear hsz hs0 hz
      generalize hT : Lib.setCells by'.data.toList = tb at *
      have HT := Lib.hid hT
      clear hT
      go_wp2_with (first | (refine wpList_load_row rfl 46 (.tmp 3) rfl (w.heap.size + 1) rfl 46 tb (0, 0) _ H2.out Tryd.underlying46 rfl HI.out ?_) | (refine wpList_store_row rfl 46 (.tmp 2) (.tmp 15) rfl w.heap.size tb rfl rfl 46 _ H1.out HI.out HS.out HO.out ?_))
      refine bodyPost_ret (v := .agg tb) ?_ rfl ⟨by rw [← HT.out], HB2.out⟩
      exact results_cell_row rfl _ _ w.heap.size 46 tb (0, 0) _ rfl HR.out Tryd.underlying46 rfl HI.out
end Go.Proofs.YtmmblmgeapogdaaDoor
