/-
  No cell of these rows narrows 'for every input' (looked for: loops, veiled, ifaces, maps, wideKeys, modest, calm, conditions, laid).
  DERIVED. THE GIVEN ROWS OF THIS SEAT. 6 by the template 'for every input the law returns true; each argument reads behind the call as it read before'; 0 by the template 'total and deterministic' (their statements: YtbdehelcpfkcmaaTotals.lean).
  GIVEN WITH THE SEED: the statements are not yours to turn. If you find one false, say at which input.
  Laid BY PROGRAM, IN A SANDBOX (cutbox-rows.mjs): the forced cells as the released guide's own fill.sh prints them over the translation a5970905cd90e328… (all of the seat's roots in one cut). By AI agents, Wed Nov 11 2026. No macro, syntax, notation, axiom, sorry.
-/
import Derived.Test.YtbdehelcpfkcmaaChecked
import GoSem.Claim
import GoSem.ClaimJoined
import GoSem.ClaimMapViews
import Derived.JoinedTies
import Derived.KernelRfl
namespace Go.Proofs.Ytbdehelcpfkcmaa
/- THE CELL 'sum', in the pinned program and in every row, IS THE sha256 OF THE DUMP (.gsa) THAT YtbdehelcpfkcmaaProg.lean LOADS. Nothing in Lean hashes anything: it is a label: what it is worth is what the hold of that sum in a sandbox is worth. -/
noncomputable def Try.pinned : Pinned := { name := "ytbdehelcpfkcmaa", sum := "a5970905cd90e3286d75240814b4f247aea94ec73c78f5da918f399689cd1de2", checked := Try.checked }
namespace Rows
def none {H : Type} : Left H := { results := [], args := [] }

/-- 'laws.FnExactSpotOk': WHATEVER THE INPUT: true; the input reads as it did. -/
def fnExactSpotOkSpec : ChangeSpec := { name := "fnExactSpotOk", fn := fun _ => fun
  | [d] => { results := [.lit (.bool true)], args := [d] }
  | _ => none }
def fnExactSpotOkRow : OpenClaim := { program := "ytbdehelcpfkcmaa", sum := "a5970905cd90e3286d75240814b4f247aea94ec73c78f5da918f399689cd1de2", func := "loop.example/g00832/laws.FnExactSpotOk", spec := "fnExactSpotOk", apart := false }
def FnExactSpotOkSaid : Prop := fnExactSpotOkRow.holds Try.pinned (OpenSpec.ofChange fnExactSpotOkSpec)

/-- ITS FALSE NEIGHBOUR: 'it returns false'. Refute it at one input. -/
def fnExactSpotOkWrong : ChangeSpec := { name := "fnExactSpotOk", fn := fun _ => fun
  | [d] => { results := [.lit (.bool false)], args := [d] }
  | _ => none }
def FnExactSpotOkWrongFalsely : Prop := fnExactSpotOkRow.holds Try.pinned (OpenSpec.ofChange fnExactSpotOkWrong)

/-- 'laws.FnExactSpotOf': WHATEVER THE INPUT: true; the input reads as it did. -/
def fnExactSpotOfSpec : ChangeSpec := { name := "fnExactSpotOf", fn := fun _ => fun
  | [d1, d2, d3] => { results := [.lit (.bool true)], args := [d1, d2, d3] }
  | _ => none }
def fnExactSpotOfRow : OpenClaim := { program := "ytbdehelcpfkcmaa", sum := "a5970905cd90e3286d75240814b4f247aea94ec73c78f5da918f399689cd1de2", func := "loop.example/g00832/laws.FnExactSpotOf", spec := "fnExactSpotOf", apart := false }
def FnExactSpotOfSaid : Prop := fnExactSpotOfRow.holds Try.pinned (OpenSpec.ofChange fnExactSpotOfSpec)

/-- ITS FALSE NEIGHBOUR: 'it returns false'. Refute it at one input. -/
def fnExactSpotOfWrong : ChangeSpec := { name := "fnExactSpotOf", fn := fun _ => fun
  | [d1, d2, d3] => { results := [.lit (.bool false)], args := [d1, d2, d3] }
  | _ => none }
def FnExactSpotOfWrongFalsely : Prop := fnExactSpotOfRow.holds Try.pinned (OpenSpec.ofChange fnExactSpotOfWrong)

/-- 'laws.FnExactSameSpot': WHATEVER THE INPUT: true; the input reads as it did. -/
def fnExactSameSpotSpec : ChangeSpec := { name := "fnExactSameSpot", fn := fun _ => fun
  | [d1, d2] => { results := [.lit (.bool true)], args := [d1, d2] }
  | _ => none }
def fnExactSameSpotRow : OpenClaim := { program := "ytbdehelcpfkcmaa", sum := "a5970905cd90e3286d75240814b4f247aea94ec73c78f5da918f399689cd1de2", func := "loop.example/g00832/laws.FnExactSameSpot", spec := "fnExactSameSpot", apart := false }
def FnExactSameSpotSaid : Prop := fnExactSameSpotRow.holds Try.pinned (OpenSpec.ofChange fnExactSameSpotSpec)

/-- ITS FALSE NEIGHBOUR: 'it returns false'. Refute it at one input. -/
def fnExactSameSpotWrong : ChangeSpec := { name := "fnExactSameSpot", fn := fun _ => fun
  | [d1, d2] => { results := [.lit (.bool false)], args := [d1, d2] }
  | _ => none }
def FnExactSameSpotWrongFalsely : Prop := fnExactSameSpotRow.holds Try.pinned (OpenSpec.ofChange fnExactSameSpotWrong)

/-- 'laws.FnExactIsWhole': WHATEVER THE INPUT: true; the input reads as it did. -/
def fnExactIsWholeSpec : ChangeSpec := { name := "fnExactIsWhole", fn := fun _ => fun
  | [d] => { results := [.lit (.bool true)], args := [d] }
  | _ => none }
def fnExactIsWholeRow : OpenClaim := { program := "ytbdehelcpfkcmaa", sum := "a5970905cd90e3286d75240814b4f247aea94ec73c78f5da918f399689cd1de2", func := "loop.example/g00832/laws.FnExactIsWhole", spec := "fnExactIsWhole", apart := false }
def FnExactIsWholeSaid : Prop := fnExactIsWholeRow.holds Try.pinned (OpenSpec.ofChange fnExactIsWholeSpec)

/-- ITS FALSE NEIGHBOUR: 'it returns false'. Refute it at one input. -/
def fnExactIsWholeWrong : ChangeSpec := { name := "fnExactIsWhole", fn := fun _ => fun
  | [d] => { results := [.lit (.bool false)], args := [d] }
  | _ => none }
def FnExactIsWholeWrongFalsely : Prop := fnExactIsWholeRow.holds Try.pinned (OpenSpec.ofChange fnExactIsWholeWrong)

/-- 'laws.FnExactShiftSpot': WHATEVER THE INPUT: true; the input reads as it did. -/
def fnExactShiftSpotSpec : ChangeSpec := { name := "fnExactShiftSpot", fn := fun _ => fun
  | [d1, d2, d3] => { results := [.lit (.bool true)], args := [d1, d2, d3] }
  | _ => none }
def fnExactShiftSpotRow : OpenClaim := { program := "ytbdehelcpfkcmaa", sum := "a5970905cd90e3286d75240814b4f247aea94ec73c78f5da918f399689cd1de2", func := "loop.example/g00832/laws.FnExactShiftSpot", spec := "fnExactShiftSpot", apart := false }
def FnExactShiftSpotSaid : Prop := fnExactShiftSpotRow.holds Try.pinned (OpenSpec.ofChange fnExactShiftSpotSpec)

/-- ITS FALSE NEIGHBOUR: 'it returns false'. Refute it at one input. -/
def fnExactShiftSpotWrong : ChangeSpec := { name := "fnExactShiftSpot", fn := fun _ => fun
  | [d1, d2, d3] => { results := [.lit (.bool false)], args := [d1, d2, d3] }
  | _ => none }
def FnExactShiftSpotWrongFalsely : Prop := fnExactShiftSpotRow.holds Try.pinned (OpenSpec.ofChange fnExactShiftSpotWrong)

/-- 'laws.FnExactHalfWay': WHATEVER THE INPUT: true; the input reads as it did. -/
def fnExactHalfWaySpec : ChangeSpec := { name := "fnExactHalfWay", fn := fun _ => fun
  | [d1, d2] => { results := [.lit (.bool true)], args := [d1, d2] }
  | _ => none }
def fnExactHalfWayRow : OpenClaim := { program := "ytbdehelcpfkcmaa", sum := "a5970905cd90e3286d75240814b4f247aea94ec73c78f5da918f399689cd1de2", func := "loop.example/g00832/laws.FnExactHalfWay", spec := "fnExactHalfWay", apart := false }
def FnExactHalfWaySaid : Prop := fnExactHalfWayRow.holds Try.pinned (OpenSpec.ofChange fnExactHalfWaySpec)

/-- ITS FALSE NEIGHBOUR: 'it returns false'. Refute it at one input. -/
def fnExactHalfWayWrong : ChangeSpec := { name := "fnExactHalfWay", fn := fun _ => fun
  | [d1, d2] => { results := [.lit (.bool false)], args := [d1, d2] }
  | _ => none }
def FnExactHalfWayWrongFalsely : Prop := fnExactHalfWayRow.holds Try.pinned (OpenSpec.ofChange fnExactHalfWayWrong)

/- THE SECOND FORM. 'bulk': how many values and letters a reading holds, each counted each time it is reached (what is shared counts as often as it is met; a slice's spare places count too). A statement '..UptoSaid' is the law's where the arguments, and the package variables that the reading takes, are together of bulk at most 1048576: NARROWER than '..Said'. Prove '..Said' where nothing that the law and all that it calls make is longer than what came in: it says more and counts as full. Else prove '..UptoSaid'. A law counts once. -/
mutual
def uptoBulk {H : Type} : DataW H → Nat
  | .lit (.string bytes) => bytes.length + 1
  | .lit _ => 1
  | .nil => 1
  | .ptr d => uptoBulk d + 1
  | .slice elems spare => uptoBulkAll elems + uptoBulkAll spare + 1
  | .agg parts => uptoBulkAll parts + 1
  | .iface _ d => uptoBulk d + 1
  | .map entries => uptoBulkEntries entries + 1
  | .held _ => 1
def uptoBulkAll {H : Type} : List (DataW H) → Nat
  | [] => 0
  | d :: r => uptoBulk d + uptoBulkAll r
def uptoBulkEntries {H : Type} : List (Lit × DataW H) → Nat
  | [] => 0
  | x :: r => uptoBulkEntry x + uptoBulkEntries r
def uptoBulkEntry {H : Type} : Lit × DataW H → Nat
  | (.string bytes, d) => bytes.length + uptoBulk d + 1
  | (_, d) => uptoBulk d + 1
 end
def uptoSmall : (H : Type) → List (DataW H) → Bool := fun _ ds => decide (uptoBulkAll ds ≤ 1048576)
def OpenSpec.upto (s : _root_.Go.ChangeSpec) : _root_.Go.OpenSpec := { _root_.Go.OpenSpec.ofChange s with cond := some uptoSmall }

/-- 'laws.FnExactSpotOk', WHERE WHAT IT READS IS OF BULK AT MOST 1048576: true; the input reads as it did. -/
def fnExactSpotOkUptoRow : OpenClaim := { program := "ytbdehelcpfkcmaa", sum := "a5970905cd90e3286d75240814b4f247aea94ec73c78f5da918f399689cd1de2", func := "loop.example/g00832/laws.FnExactSpotOk", spec := "fnExactSpotOk", apart := false, narrowed := true }
def FnExactSpotOkUptoSaid : Prop := fnExactSpotOkUptoRow.holds Try.pinned (OpenSpec.upto fnExactSpotOkSpec)

/-- 'laws.FnExactSpotOf', WHERE WHAT IT READS IS OF BULK AT MOST 1048576: true; the input reads as it did. -/
def fnExactSpotOfUptoRow : OpenClaim := { program := "ytbdehelcpfkcmaa", sum := "a5970905cd90e3286d75240814b4f247aea94ec73c78f5da918f399689cd1de2", func := "loop.example/g00832/laws.FnExactSpotOf", spec := "fnExactSpotOf", apart := false, narrowed := true }
def FnExactSpotOfUptoSaid : Prop := fnExactSpotOfUptoRow.holds Try.pinned (OpenSpec.upto fnExactSpotOfSpec)

/-- 'laws.FnExactSameSpot', WHERE WHAT IT READS IS OF BULK AT MOST 1048576: true; the input reads as it did. -/
def fnExactSameSpotUptoRow : OpenClaim := { program := "ytbdehelcpfkcmaa", sum := "a5970905cd90e3286d75240814b4f247aea94ec73c78f5da918f399689cd1de2", func := "loop.example/g00832/laws.FnExactSameSpot", spec := "fnExactSameSpot", apart := false, narrowed := true }
def FnExactSameSpotUptoSaid : Prop := fnExactSameSpotUptoRow.holds Try.pinned (OpenSpec.upto fnExactSameSpotSpec)

/-- 'laws.FnExactIsWhole', WHERE WHAT IT READS IS OF BULK AT MOST 1048576: true; the input reads as it did. -/
def fnExactIsWholeUptoRow : OpenClaim := { program := "ytbdehelcpfkcmaa", sum := "a5970905cd90e3286d75240814b4f247aea94ec73c78f5da918f399689cd1de2", func := "loop.example/g00832/laws.FnExactIsWhole", spec := "fnExactIsWhole", apart := false, narrowed := true }
def FnExactIsWholeUptoSaid : Prop := fnExactIsWholeUptoRow.holds Try.pinned (OpenSpec.upto fnExactIsWholeSpec)

/-- 'laws.FnExactShiftSpot', WHERE WHAT IT READS IS OF BULK AT MOST 1048576: true; the input reads as it did. -/
def fnExactShiftSpotUptoRow : OpenClaim := { program := "ytbdehelcpfkcmaa", sum := "a5970905cd90e3286d75240814b4f247aea94ec73c78f5da918f399689cd1de2", func := "loop.example/g00832/laws.FnExactShiftSpot", spec := "fnExactShiftSpot", apart := false, narrowed := true }
def FnExactShiftSpotUptoSaid : Prop := fnExactShiftSpotUptoRow.holds Try.pinned (OpenSpec.upto fnExactShiftSpotSpec)

/-- 'laws.FnExactHalfWay', WHERE WHAT IT READS IS OF BULK AT MOST 1048576: true; the input reads as it did. -/
def fnExactHalfWayUptoRow : OpenClaim := { program := "ytbdehelcpfkcmaa", sum := "a5970905cd90e3286d75240814b4f247aea94ec73c78f5da918f399689cd1de2", func := "loop.example/g00832/laws.FnExactHalfWay", spec := "fnExactHalfWay", apart := false, narrowed := true }
def FnExactHalfWayUptoSaid : Prop := fnExactHalfWayUptoRow.holds Try.pinned (OpenSpec.upto fnExactHalfWaySpec)

end Rows
end Go.Proofs.Ytbdehelcpfkcmaa
