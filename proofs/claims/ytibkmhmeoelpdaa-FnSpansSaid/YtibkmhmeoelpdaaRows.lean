/-
  No cell of these rows narrows 'for every input' (looked for: loops, veiled, ifaces, maps, wideKeys, modest, calm, conditions, laid).
  DERIVED. THE GIVEN ROWS OF THIS SEAT. 7 by the template 'for every input the law returns true; each argument reads behind the call as it read before'; 0 by the template 'total and deterministic' (their statements: YtibkmhmeoelpdaaTotals.lean).
  GIVEN WITH THE SEED: the statements are not yours to turn. If you find one false, say at which input.
  Laid BY PROGRAM, IN A SANDBOX (cutbox-rows.mjs): the forced cells as the released guide's own fill.sh prints them over the translation 1bd505c1742de941… (all of the seat's roots in one cut). By AI agents, Wed Nov 11 2026. No macro, syntax, notation, axiom, sorry.
-/
import Derived.Test.YtibkmhmeoelpdaaChecked
import GoSem.Claim
import GoSem.ClaimJoined
import GoSem.ClaimMapViews
import Derived.JoinedTies
import Derived.KernelRfl
namespace Go.Proofs.Ytibkmhmeoelpdaa
/- THE CELL 'sum', in the pinned program and in every row, IS THE sha256 OF THE DUMP (.gsa) THAT YtibkmhmeoelpdaaProg.lean LOADS. Nothing in Lean hashes anything: it is a label: what it is worth is what the hold of that sum in a sandbox is worth. -/
noncomputable def Try.pinned : Pinned := { name := "ytibkmhmeoelpdaa", sum := "1bd505c1742de941fc548bc719b8f42106182934f416e1851c22206bbca151e3", checked := Try.checked }
namespace Rows
def none {H : Type} : Left H := { results := [], args := [] }

/-- 'laws.FnExactSpanOk': WHATEVER THE INPUT: true; the input reads as it did. -/
def fnExactSpanOkSpec : ChangeSpec := { name := "fnExactSpanOk", fn := fun _ => fun
  | [d] => { results := [.lit (.bool true)], args := [d] }
  | _ => none }
def fnExactSpanOkRow : OpenClaim := { program := "ytibkmhmeoelpdaa", sum := "1bd505c1742de941fc548bc719b8f42106182934f416e1851c22206bbca151e3", func := "loop.example/g00832/laws.FnExactSpanOk", spec := "fnExactSpanOk", apart := false }
def FnExactSpanOkSaid : Prop := fnExactSpanOkRow.holds Try.pinned (OpenSpec.ofChange fnExactSpanOkSpec)

/-- ITS FALSE NEIGHBOUR: 'it returns false'. Refute it at one input. -/
def fnExactSpanOkWrong : ChangeSpec := { name := "fnExactSpanOk", fn := fun _ => fun
  | [d] => { results := [.lit (.bool false)], args := [d] }
  | _ => none }
def FnExactSpanOkWrongFalsely : Prop := fnExactSpanOkRow.holds Try.pinned (OpenSpec.ofChange fnExactSpanOkWrong)

/-- 'laws.FnExactInSpan': WHATEVER THE INPUT: true; the input reads as it did. -/
def fnExactInSpanSpec : ChangeSpec := { name := "fnExactInSpan", fn := fun _ => fun
  | [d1, d2] => { results := [.lit (.bool true)], args := [d1, d2] }
  | _ => none }
def fnExactInSpanRow : OpenClaim := { program := "ytibkmhmeoelpdaa", sum := "1bd505c1742de941fc548bc719b8f42106182934f416e1851c22206bbca151e3", func := "loop.example/g00832/laws.FnExactInSpan", spec := "fnExactInSpan", apart := false }
def FnExactInSpanSaid : Prop := fnExactInSpanRow.holds Try.pinned (OpenSpec.ofChange fnExactInSpanSpec)

/-- ITS FALSE NEIGHBOUR: 'it returns false'. Refute it at one input. -/
def fnExactInSpanWrong : ChangeSpec := { name := "fnExactInSpan", fn := fun _ => fun
  | [d1, d2] => { results := [.lit (.bool false)], args := [d1, d2] }
  | _ => none }
def FnExactInSpanWrongFalsely : Prop := fnExactInSpanRow.holds Try.pinned (OpenSpec.ofChange fnExactInSpanWrong)

/-- 'laws.FnExactPickInput': WHATEVER THE INPUT: true; the input reads as it did. -/
def fnExactPickInputSpec : ChangeSpec := { name := "fnExactPickInput", fn := fun _ => fun
  | [d1, d2] => { results := [.lit (.bool true)], args := [d1, d2] }
  | _ => none }
def fnExactPickInputRow : OpenClaim := { program := "ytibkmhmeoelpdaa", sum := "1bd505c1742de941fc548bc719b8f42106182934f416e1851c22206bbca151e3", func := "loop.example/g00832/laws.FnExactPickInput", spec := "fnExactPickInput", apart := false }
def FnExactPickInputSaid : Prop := fnExactPickInputRow.holds Try.pinned (OpenSpec.ofChange fnExactPickInputSpec)

/-- ITS FALSE NEIGHBOUR: 'it returns false'. Refute it at one input. -/
def fnExactPickInputWrong : ChangeSpec := { name := "fnExactPickInput", fn := fun _ => fun
  | [d1, d2] => { results := [.lit (.bool false)], args := [d1, d2] }
  | _ => none }
def FnExactPickInputWrongFalsely : Prop := fnExactPickInputRow.holds Try.pinned (OpenSpec.ofChange fnExactPickInputWrong)

/-- 'laws.FnExactMeetSpans': WHATEVER THE INPUT: true; the input reads as it did. -/
def fnExactMeetSpansSpec : ChangeSpec := { name := "fnExactMeetSpans", fn := fun _ => fun
  | [d1, d2] => { results := [.lit (.bool true)], args := [d1, d2] }
  | _ => none }
def fnExactMeetSpansRow : OpenClaim := { program := "ytibkmhmeoelpdaa", sum := "1bd505c1742de941fc548bc719b8f42106182934f416e1851c22206bbca151e3", func := "loop.example/g00832/laws.FnExactMeetSpans", spec := "fnExactMeetSpans", apart := false }
def FnExactMeetSpansSaid : Prop := fnExactMeetSpansRow.holds Try.pinned (OpenSpec.ofChange fnExactMeetSpansSpec)

/-- ITS FALSE NEIGHBOUR: 'it returns false'. Refute it at one input. -/
def fnExactMeetSpansWrong : ChangeSpec := { name := "fnExactMeetSpans", fn := fun _ => fun
  | [d1, d2] => { results := [.lit (.bool false)], args := [d1, d2] }
  | _ => none }
def FnExactMeetSpansWrongFalsely : Prop := fnExactMeetSpansRow.holds Try.pinned (OpenSpec.ofChange fnExactMeetSpansWrong)

/-- 'laws.FnExactWholeInputs': WHATEVER THE INPUT: true; the input reads as it did. -/
def fnExactWholeInputsSpec : ChangeSpec := { name := "fnExactWholeInputs", fn := fun _ => fun
  | [d] => { results := [.lit (.bool true)], args := [d] }
  | _ => none }
def fnExactWholeInputsRow : OpenClaim := { program := "ytibkmhmeoelpdaa", sum := "1bd505c1742de941fc548bc719b8f42106182934f416e1851c22206bbca151e3", func := "loop.example/g00832/laws.FnExactWholeInputs", spec := "fnExactWholeInputs", apart := false }
def FnExactWholeInputsSaid : Prop := fnExactWholeInputsRow.holds Try.pinned (OpenSpec.ofChange fnExactWholeInputsSpec)

/-- ITS FALSE NEIGHBOUR: 'it returns false'. Refute it at one input. -/
def fnExactWholeInputsWrong : ChangeSpec := { name := "fnExactWholeInputs", fn := fun _ => fun
  | [d] => { results := [.lit (.bool false)], args := [d] }
  | _ => none }
def FnExactWholeInputsWrongFalsely : Prop := fnExactWholeInputsRow.holds Try.pinned (OpenSpec.ofChange fnExactWholeInputsWrong)

/-- 'laws.FnExactAdmitHalf': WHATEVER THE INPUT: true; the input reads as it did. -/
def fnExactAdmitHalfSpec : ChangeSpec := { name := "fnExactAdmitHalf", fn := fun _ => fun
  | [d1, d2] => { results := [.lit (.bool true)], args := [d1, d2] }
  | _ => none }
def fnExactAdmitHalfRow : OpenClaim := { program := "ytibkmhmeoelpdaa", sum := "1bd505c1742de941fc548bc719b8f42106182934f416e1851c22206bbca151e3", func := "loop.example/g00832/laws.FnExactAdmitHalf", spec := "fnExactAdmitHalf", unfollowed := true, recurses := true, apart := false }
def FnExactAdmitHalfSaid : Prop := fnExactAdmitHalfRow.holds Try.pinned (OpenSpec.ofChange fnExactAdmitHalfSpec)

/-- ITS FALSE NEIGHBOUR: 'it returns false'. Refute it at one input. -/
def fnExactAdmitHalfWrong : ChangeSpec := { name := "fnExactAdmitHalf", fn := fun _ => fun
  | [d1, d2] => { results := [.lit (.bool false)], args := [d1, d2] }
  | _ => none }
def FnExactAdmitHalfWrongFalsely : Prop := fnExactAdmitHalfRow.holds Try.pinned (OpenSpec.ofChange fnExactAdmitHalfWrong)

/-- 'laws.FnSpans': WHATEVER THE INPUT: true; the input reads as it did. -/
def fnSpansSpec : ChangeSpec := { name := "fnSpans", fn := fun _ => fun
  | [d] => { results := [.lit (.bool true)], args := [d] }
  | _ => none }
def fnSpansRow : OpenClaim := { program := "ytibkmhmeoelpdaa", sum := "1bd505c1742de941fc548bc719b8f42106182934f416e1851c22206bbca151e3", func := "loop.example/g00832/laws.FnSpans", spec := "fnSpans", apart := false }
def FnSpansSaid : Prop := fnSpansRow.holds Try.pinned (OpenSpec.ofChange fnSpansSpec)

/-- ITS FALSE NEIGHBOUR: 'it returns false'. Refute it at one input. -/
def fnSpansWrong : ChangeSpec := { name := "fnSpans", fn := fun _ => fun
  | [d] => { results := [.lit (.bool false)], args := [d] }
  | _ => none }
def FnSpansWrongFalsely : Prop := fnSpansRow.holds Try.pinned (OpenSpec.ofChange fnSpansWrong)

/- THE SECOND FORM. 'bulk': how many values and letters a reading holds, each counted each time it is reached (what is shared counts as often as it is met; a slice's spare places count too). A statement '..UptoSaid' is the law's where the arguments, and the package variables that the reading takes, are together of bulk at most 1048576: NARROWER than '..Said'. Prove '..Said' where nothing that the law and all that it calls make is longer than what came in: it says more and counts as full. Else prove '..UptoSaid'. A law counts once. -/
mutual
def uptoBulk {H : Type} : DataW H → Nat
  | .lit (.string bytes) => bytes.length + 1
  | .lit _ => 1
  | .nil => 1
  | .ptr d => uptoBulk d + 1
  | .slice elems spare => uptoBulkAll elems + uptoBulkAll spare + 1
  | .agg parts => uptoBulkAll parts + 1
  | .iface _ d => uptoBulk d + 1
  | .map entries => uptoBulkEntries entries + 1
  | .held _ => 1
def uptoBulkAll {H : Type} : List (DataW H) → Nat
  | [] => 0
  | d :: r => uptoBulk d + uptoBulkAll r
def uptoBulkEntries {H : Type} : List (Lit × DataW H) → Nat
  | [] => 0
  | x :: r => uptoBulkEntry x + uptoBulkEntries r
def uptoBulkEntry {H : Type} : Lit × DataW H → Nat
  | (.string bytes, d) => bytes.length + uptoBulk d + 1
  | (_, d) => uptoBulk d + 1
 end
def uptoSmall : (H : Type) → List (DataW H) → Bool := fun _ ds => decide (uptoBulkAll ds ≤ 1048576)
def OpenSpec.upto (s : _root_.Go.ChangeSpec) : _root_.Go.OpenSpec := { _root_.Go.OpenSpec.ofChange s with cond := some uptoSmall }

/-- 'laws.FnExactSpanOk', WHERE WHAT IT READS IS OF BULK AT MOST 1048576: true; the input reads as it did. -/
def fnExactSpanOkUptoRow : OpenClaim := { program := "ytibkmhmeoelpdaa", sum := "1bd505c1742de941fc548bc719b8f42106182934f416e1851c22206bbca151e3", func := "loop.example/g00832/laws.FnExactSpanOk", spec := "fnExactSpanOk", apart := false, narrowed := true }
def FnExactSpanOkUptoSaid : Prop := fnExactSpanOkUptoRow.holds Try.pinned (OpenSpec.upto fnExactSpanOkSpec)

/-- 'laws.FnExactInSpan', WHERE WHAT IT READS IS OF BULK AT MOST 1048576: true; the input reads as it did. -/
def fnExactInSpanUptoRow : OpenClaim := { program := "ytibkmhmeoelpdaa", sum := "1bd505c1742de941fc548bc719b8f42106182934f416e1851c22206bbca151e3", func := "loop.example/g00832/laws.FnExactInSpan", spec := "fnExactInSpan", apart := false, narrowed := true }
def FnExactInSpanUptoSaid : Prop := fnExactInSpanUptoRow.holds Try.pinned (OpenSpec.upto fnExactInSpanSpec)

/-- 'laws.FnExactPickInput', WHERE WHAT IT READS IS OF BULK AT MOST 1048576: true; the input reads as it did. -/
def fnExactPickInputUptoRow : OpenClaim := { program := "ytibkmhmeoelpdaa", sum := "1bd505c1742de941fc548bc719b8f42106182934f416e1851c22206bbca151e3", func := "loop.example/g00832/laws.FnExactPickInput", spec := "fnExactPickInput", apart := false, narrowed := true }
def FnExactPickInputUptoSaid : Prop := fnExactPickInputUptoRow.holds Try.pinned (OpenSpec.upto fnExactPickInputSpec)

/-- 'laws.FnExactMeetSpans', WHERE WHAT IT READS IS OF BULK AT MOST 1048576: true; the input reads as it did. -/
def fnExactMeetSpansUptoRow : OpenClaim := { program := "ytibkmhmeoelpdaa", sum := "1bd505c1742de941fc548bc719b8f42106182934f416e1851c22206bbca151e3", func := "loop.example/g00832/laws.FnExactMeetSpans", spec := "fnExactMeetSpans", apart := false, narrowed := true }
def FnExactMeetSpansUptoSaid : Prop := fnExactMeetSpansUptoRow.holds Try.pinned (OpenSpec.upto fnExactMeetSpansSpec)

/-- 'laws.FnExactWholeInputs', WHERE WHAT IT READS IS OF BULK AT MOST 1048576: true; the input reads as it did. -/
def fnExactWholeInputsUptoRow : OpenClaim := { program := "ytibkmhmeoelpdaa", sum := "1bd505c1742de941fc548bc719b8f42106182934f416e1851c22206bbca151e3", func := "loop.example/g00832/laws.FnExactWholeInputs", spec := "fnExactWholeInputs", apart := false, narrowed := true }
def FnExactWholeInputsUptoSaid : Prop := fnExactWholeInputsUptoRow.holds Try.pinned (OpenSpec.upto fnExactWholeInputsSpec)

/-- 'laws.FnExactAdmitHalf', WHERE WHAT IT READS IS OF BULK AT MOST 1048576: true; the input reads as it did. -/
def fnExactAdmitHalfUptoRow : OpenClaim := { program := "ytibkmhmeoelpdaa", sum := "1bd505c1742de941fc548bc719b8f42106182934f416e1851c22206bbca151e3", func := "loop.example/g00832/laws.FnExactAdmitHalf", spec := "fnExactAdmitHalf", unfollowed := true, recurses := true, apart := false, narrowed := true }
def FnExactAdmitHalfUptoSaid : Prop := fnExactAdmitHalfUptoRow.holds Try.pinned (OpenSpec.upto fnExactAdmitHalfSpec)

/-- 'laws.FnSpans', WHERE WHAT IT READS IS OF BULK AT MOST 1048576: true; the input reads as it did. -/
def fnSpansUptoRow : OpenClaim := { program := "ytibkmhmeoelpdaa", sum := "1bd505c1742de941fc548bc719b8f42106182934f416e1851c22206bbca151e3", func := "loop.example/g00832/laws.FnSpans", spec := "fnSpans", apart := false, narrowed := true }
def FnSpansUptoSaid : Prop := fnSpansUptoRow.holds Try.pinned (OpenSpec.upto fnSpansSpec)

end Rows
end Go.Proofs.Ytibkmhmeoelpdaa
