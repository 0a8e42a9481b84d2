/- The contract of the program's SplitAny over the translation, and the walk of its law. -/
import Derived.Test.YtmmblmgeapogdaaDoorTab
import Derived.Test.YtmmblmgeapogdaaDoorLines2
namespace Go.Proofs.YtmmblmgeapogdaaDoor
open Go.RowKit

set_option maxHeartbeats 1600000 in
theorem impl_split (s by' : ByteArray) (w : World) (hs : s.size ≤ 1048576) (hby : by'.size ≤ 1048576) :
    Calls Tryd.prog 11 #[.string s, .string by'] w (Gives w (split s by')) := by
  obtain ⟨i0, hi, hz0, hz1, hz2⟩ := info_parts Tryd.info9
  have hz := zero36
  go_enter Tryd.func11, Tryd.ntmps11
  go_wp2_with fail
  refine (bytes_in by' _ hby).mono ?_
  rintro e w1 ⟨rfl, hb1⟩
  have hsz := Lib.setCells_size by'.data.toList
  have hs0 := Lib.setCells_size []
  have HI := Lib.hid (show (Tryd.prog.info? 46).map (·.size) = some (Lib.setCells by'.data.toList).size by rw [hsz]; exact size36)
  have HS := Lib.hid (show (Lib.setCells []).size = (Lib.setCells by'.data.toList).size by rw [hsz, hs0])
  have HO := Lib.hid (Lib.setCells_one by'.data.toList)
  have HAT := Lib.hid (fun c : UInt8 => Lib.setCells_at by'.data.toList c)
  have H1 := Lib.hid (heap_alloc_new w1 (.cells (Lib.setCells []) 46))
  have HR := Lib.hid (setRow_same (w1.alloc (.cells (Lib.setCells []) 46)) w1.heap.size _ (Lib.setCells by'.data.toList) H1.out)
  have hB0 : Below w.heap.size w ((w1.alloc (.cells (Lib.setCells []) 46)).setRow w1.heap.size (Lib.setCells by'.data.toList)) := below_setRow (hb1.alloc hb1.size _) hb1.size _
  have hq0 : w1.heap.size < ((w1.alloc (.cells (Lib.setCells []) 46)).setRow w1.heap.size (Lib.setCells by'.data.toList)).heap.size := by simp
  clear hsz hs0
  generalize Lib.setCells by'.data.toList = tb at *
  go_wp2_with (refine wpList_store_row rfl 46 (.tmp 5) (.tmp 10) rfl w1.heap.size tb rfl rfl 46 _ H1.out HI.out HS.out HO.out ?_)
  clear hz
  generalize (w1.alloc (.cells (Lib.setCells []) 46)).setRow w1.heap.size tb = w2 at *
  obtain ⟨T, hT⟩ : ∃ T, T = w1.heap.size := ⟨_, rfl⟩
  rw [← hT] at HR hq0
  have hTw : w.heap.size ≤ T := by rw [hT]; exact hb1.size
  rw [← hT]
  clear hT hb1 H1 HS HO HI
  go_loopw [6, 7, 8, 13] (fun v f _ i wr => ∃ k : Nat, k ≤ s.size ∧ i = .int .i64 k ∧ f = .int .i64 ((sp s by' k).2 : Nat) ∧ wr.heap[T]? = some (.cells tb 46 (0, 0)) ∧ wr.ownsRow (T + 1) 9 1 v (sp s by' k).1.length ((sp s by' k).1.map Value.string) ∧ Below w.heap.size w wr)
    (fun _ _ _ i _ => s.size - (intOf i).toNat)
  case atStart => exact ⟨0, Nat.zero_le _, rfl, rfl, HR.out, World.ownsRow_nil _ _ _ _, hB0⟩
  case round =>
    obtain ⟨k, hk, rfl, rfl, ht, hown, hbel⟩ := hrel
    clear hB0 hq0
    have hlen := sp_len s by' k
    obtain ⟨hlen1, hlen2⟩ := hlen
    have HT := Lib.hid ht
    have hsz := hbel.size
    have hszl := lt_of_block ht
    clear ht
    by_cases hlt : k < s.size
    · have hx : s[k].toNat < 256 := s[k].toNat_lt
      cases hh : hit by' s[k] with
      | true =>
        have HS := Lib.hid (sp_hit s by' k hlt hh)
        have hc : wr.cell? ⟨T, s[k].toNat, none⟩ = some (.bool true) := by
          rw [cell_of_row wr _ _ _ _ _ HT.out, HAT.out s[k]]; rw [show by'.data.toList.contains s[k] = true from hh]
        clear hh
        generalize (sp s by' k).1 = out at *
        generalize (sp s by' k).2 = fr at *
        go_wp2_with (at_builtin; refine wpList_append_own _ rfl _ _ 29 rfl (T + 1) 9 i0 (.string ByteArray.empty) 1 16 Tryd.underlying29 hi hz0 hz1 hz2 rfl (by decide) _ _ _ rfl (hown.alloc _) ⟨wr.heap.size, 0, none⟩ 1 1 [.string (s.extract fr k)] rfl rfl ?c1 ?c2 ?c3 ?c4 ?c5 ?_)
        case c1 => exact cell_new1 _ _ _
        case c2 => intro u hu; simp at hu; subst hu; rfl
        case c3 => unfold maxLen; omega
        case c4 => omega
        case c5 => simp; omega
        intro v' w3 hown' hgrow _
        have hb4 : Below w.heap.size w w3 := (hbel.alloc hsz _).grown hgrow (by simp; omega) (fun g hg => by have := (hown.lt g hg).1; omega)
        have HT4 := Lib.hid (show w3.heap[T]? = some (.cells tb 46 (0, 0)) by
          rw [hgrow.block T (by simp; omega) (fun e => by have := (hown.lt _ e.symm).1; omega), Below.heap_alloc _ _ _ hszl]
          exact HT.out)
        go_wp2
        go_roundw
        case rel => exact ⟨k + 1, by omega, by go_num, by rw [HS.out]; go_num, HT4.out, by rw [HS.out]; simpa using hown', hb4⟩
        case measure => simp [intOf]; omega
      | false =>
        have HS := Lib.hid (sp_miss s by' k hlt hh)
        have hc : wr.cell? ⟨T, s[k].toNat, none⟩ = some (.bool false) := by
          rw [cell_of_row wr _ _ _ _ _ HT.out, HAT.out s[k]]; rw [show by'.data.toList.contains s[k] = false from hh]
        clear hh
        go_wp2
        go_roundw
        case rel => exact ⟨k + 1, by omega, by go_num, by rw [HS.out], HT.out, by rw [HS.out]; exact hown, hbel⟩
        case measure => simp [intOf]; omega
    · have hks : k = s.size := by omega
      have HQ := Lib.hid (show split s by' = (sp s by' k).1 ++ [s.extract (sp s by' k).2 s.size] by rw [hks]; rfl)
      clear hks
      generalize (sp s by' k).1 = out at *
      generalize (sp s by' k).2 = fr at *
      go_wp2_with (at_builtin; refine wpList_append_own _ rfl _ _ 29 rfl (T + 1) 9 i0 (.string ByteArray.empty) 1 16 Tryd.underlying29 hi hz0 hz1 hz2 rfl (by decide) _ _ _ rfl (hown.alloc _) ⟨wr.heap.size, 0, none⟩ 1 1 [.string (s.extract fr s.size)] rfl rfl ?d1 ?d2 ?d3 ?d4 ?d5 ?_)
      case d1 => exact cell_new1 _ _ _
      case d2 => intro u hu; simp at hu; subst hu; rfl
      case d3 => unfold maxLen; omega
      case d4 => omega
      case d5 => simp; omega
      intro v' w3 hown' hgrow _
      have hb4 : Below w.heap.size w w3 := (hbel.alloc hsz _).grown hgrow (by simp; omega) (fun g hg => by have := (hown.lt g hg).1; omega)
      go_wp2
      go_ret
      exact Gives.mk' (own_mono hown' (by omega)) (by rw [HQ.out]; simp) (by rw [HQ.out]; simp) hb4

end Go.Proofs.YtmmblmgeapogdaaDoor
