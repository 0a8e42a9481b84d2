/- The walk of the law of SplitLines. -/
import Derived.Test.YtmmblmgeapogdaaDoorLines
namespace Go.Proofs.YtmmblmgeapogdaaDoor
open Go.RowKit

theorem split_len (s by' : ByteArray) : (split s by').length ≤ s.size + 1 := by
  have := (sp_len s by' s.size).1
  unfold split; simp; omega
theorem lines_len (s : ByteArray) : (lines s).length ≤ s.size + 1 := by
  have h1 := (sp_len s nl s.size).1
  have h2 := split_len s nl
  unfold lines; split <;> omega

/-- an owned row below what a call may touch -/
theorem own_keep {w w' : World} {A B n : Nat} {v : Value} {xs : List Value} (h : w.ownsRow A 9 1 v n xs) (hlt : ∀ g, v.ownBlock = some g → g < B) (hb : Below B w w') : w'.ownsRow A 9 1 v n xs := by
  refine ⟨h.1, ?_⟩
  rcases h.2 with h2 | ⟨g, cap, cur, hv, hg, hh, r⟩
  · exact .inl h2
  · refine .inr ⟨g, cap, cur, hv, hg, ?_, r⟩
    rw [hb.block g (hlt g (by rw [hv]; rfl))]; exact hh

end Go.Proofs.YtmmblmgeapogdaaDoor
