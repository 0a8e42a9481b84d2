/- Spans of inputs: SpanOk, InSpan and MeetSpans of the model, over the translation. -/
import Derived.Test.YtibkmhmeoelpdaaGreatMo
import Derived.Test.YtibkmhmeoelpdaaGreatCg
namespace Go.Proofs.YtibkmhmeoelpdaaGreat
open Go.RowKit
open Geo (H3)

def I64 (n : Int) : Prop := -9223372036854775808 ≤ n ∧ n ≤ 9223372036854775807
/-- a valid span -/
def spnB (a b c d : Int) : Bool := okR a b && okR c d && decide (cmpR a b c d ≤ 0)
/-- whether an input lies in a span -/
def ispB (a b c d n m : Int) : Bool := spnB a b c d && okR n m && decide (cmpR a b n m ≤ 0) && decide (cmpR n m c d ≤ 0)
theorem spn_ok {a b c d : Int} (h : spnB a b c d = true) : okR a b = true ∧ okR c d = true ∧ cmpR a b c d ≤ 0 := by
  unfold spnB at h
  simp only [Bool.and_eq_true, decide_eq_true_eq] at h
  exact ⟨h.1.1, h.1.2, h.2⟩
end Go.Proofs.YtibkmhmeoelpdaaGreat
