/-
  No cell of these rows narrows 'for every input' (looked for: loops, veiled, ifaces, maps, wideKeys, modest, calm, conditions, laid).
  DERIVED. THE GIVEN ROWS OF THIS SEAT. 7 by the template 'for every input the law returns true; each argument reads behind the call as it read before'; 0 by the template 'total and deterministic' (their statements: YtplangahbabloaaTotals.lean).
  GIVEN WITH THE SEED: the statements are not yours to turn. If you find one false, say at which input.
  Laid BY PROGRAM, IN A SANDBOX (cutbox-rows.mjs): the forced cells as the released guide's own fill.sh prints them over the translation 0ca16e0cda48314b… (all of the seat's roots in one cut). By AI agents, Wed Nov 11 2026. No macro, syntax, notation, axiom, sorry.
-/
import Derived.Test.YtplangahbabloaaChecked
import GoSem.Claim
import GoSem.ClaimJoined
import GoSem.ClaimMapViews
import Derived.JoinedTies
import Derived.KernelRfl
namespace Go.Proofs.Ytplangahbabloaa
/- THE CELL 'sum', in the pinned program and in every row, IS THE sha256 OF THE DUMP (.gsa) THAT YtplangahbabloaaProg.lean LOADS. Nothing in Lean hashes anything: it is a label: what it is worth is what the hold of that sum in a sandbox is worth. -/
noncomputable def Try.pinned : Pinned := { name := "ytplangahbabloaa", sum := "0ca16e0cda48314b11b137f7abd0e12fc4bc6eca93160d84a7f9851cd8400740", checked := Try.checked }
namespace Rows
def none {H : Type} : Left H := { results := [], args := [] }

/-- 'laws.FnExactGcdOf': WHATEVER THE INPUT: true; the input reads as it did. -/
def fnExactGcdOfSpec : ChangeSpec := { name := "fnExactGcdOf", fn := fun _ => fun
  | [d1, d2] => { results := [.lit (.bool true)], args := [d1, d2] }
  | _ => none }
def fnExactGcdOfRow : OpenClaim := { program := "ytplangahbabloaa", sum := "0ca16e0cda48314b11b137f7abd0e12fc4bc6eca93160d84a7f9851cd8400740", func := "loop.example/g00832/laws.FnExactGcdOf", spec := "fnExactGcdOf", apart := false }
def FnExactGcdOfSaid : Prop := fnExactGcdOfRow.holds Try.pinned (OpenSpec.ofChange fnExactGcdOfSpec)

/-- ITS FALSE NEIGHBOUR: 'it returns false'. Refute it at one input. -/
def fnExactGcdOfWrong : ChangeSpec := { name := "fnExactGcdOf", fn := fun _ => fun
  | [d1, d2] => { results := [.lit (.bool false)], args := [d1, d2] }
  | _ => none }
def FnExactGcdOfWrongFalsely : Prop := fnExactGcdOfRow.holds Try.pinned (OpenSpec.ofChange fnExactGcdOfWrong)

/-- 'laws.FnExactRatioOk': WHATEVER THE INPUT: true; the input reads as it did. -/
def fnExactRatioOkSpec : ChangeSpec := { name := "fnExactRatioOk", fn := fun _ => fun
  | [d] => { results := [.lit (.bool true)], args := [d] }
  | _ => none }
def fnExactRatioOkRow : OpenClaim := { program := "ytplangahbabloaa", sum := "0ca16e0cda48314b11b137f7abd0e12fc4bc6eca93160d84a7f9851cd8400740", func := "loop.example/g00832/laws.FnExactRatioOk", spec := "fnExactRatioOk", apart := false }
def FnExactRatioOkSaid : Prop := fnExactRatioOkRow.holds Try.pinned (OpenSpec.ofChange fnExactRatioOkSpec)

/-- ITS FALSE NEIGHBOUR: 'it returns false'. Refute it at one input. -/
def fnExactRatioOkWrong : ChangeSpec := { name := "fnExactRatioOk", fn := fun _ => fun
  | [d] => { results := [.lit (.bool false)], args := [d] }
  | _ => none }
def FnExactRatioOkWrongFalsely : Prop := fnExactRatioOkRow.holds Try.pinned (OpenSpec.ofChange fnExactRatioOkWrong)

/-- 'laws.FnExactRatioCmp': WHATEVER THE INPUT: true; the input reads as it did. -/
def fnExactRatioCmpSpec : ChangeSpec := { name := "fnExactRatioCmp", fn := fun _ => fun
  | [d1, d2] => { results := [.lit (.bool true)], args := [d1, d2] }
  | _ => none }
def fnExactRatioCmpRow : OpenClaim := { program := "ytplangahbabloaa", sum := "0ca16e0cda48314b11b137f7abd0e12fc4bc6eca93160d84a7f9851cd8400740", func := "loop.example/g00832/laws.FnExactRatioCmp", spec := "fnExactRatioCmp", apart := false }
def FnExactRatioCmpSaid : Prop := fnExactRatioCmpRow.holds Try.pinned (OpenSpec.ofChange fnExactRatioCmpSpec)

/-- ITS FALSE NEIGHBOUR: 'it returns false'. Refute it at one input. -/
def fnExactRatioCmpWrong : ChangeSpec := { name := "fnExactRatioCmp", fn := fun _ => fun
  | [d1, d2] => { results := [.lit (.bool false)], args := [d1, d2] }
  | _ => none }
def FnExactRatioCmpWrongFalsely : Prop := fnExactRatioCmpRow.holds Try.pinned (OpenSpec.ofChange fnExactRatioCmpWrong)

/-- 'laws.FnExactRatioFloor': WHATEVER THE INPUT: true; the input reads as it did. -/
def fnExactRatioFloorSpec : ChangeSpec := { name := "fnExactRatioFloor", fn := fun _ => fun
  | [d] => { results := [.lit (.bool true)], args := [d] }
  | _ => none }
def fnExactRatioFloorRow : OpenClaim := { program := "ytplangahbabloaa", sum := "0ca16e0cda48314b11b137f7abd0e12fc4bc6eca93160d84a7f9851cd8400740", func := "loop.example/g00832/laws.FnExactRatioFloor", spec := "fnExactRatioFloor", apart := false }
def FnExactRatioFloorSaid : Prop := fnExactRatioFloorRow.holds Try.pinned (OpenSpec.ofChange fnExactRatioFloorSpec)

/-- ITS FALSE NEIGHBOUR: 'it returns false'. Refute it at one input. -/
def fnExactRatioFloorWrong : ChangeSpec := { name := "fnExactRatioFloor", fn := fun _ => fun
  | [d] => { results := [.lit (.bool false)], args := [d] }
  | _ => none }
def FnExactRatioFloorWrongFalsely : Prop := fnExactRatioFloorRow.holds Try.pinned (OpenSpec.ofChange fnExactRatioFloorWrong)

/-- 'laws.FnExactRatioCeil': WHATEVER THE INPUT: true; the input reads as it did. -/
def fnExactRatioCeilSpec : ChangeSpec := { name := "fnExactRatioCeil", fn := fun _ => fun
  | [d] => { results := [.lit (.bool true)], args := [d] }
  | _ => none }
def fnExactRatioCeilRow : OpenClaim := { program := "ytplangahbabloaa", sum := "0ca16e0cda48314b11b137f7abd0e12fc4bc6eca93160d84a7f9851cd8400740", func := "loop.example/g00832/laws.FnExactRatioCeil", spec := "fnExactRatioCeil", apart := false }
def FnExactRatioCeilSaid : Prop := fnExactRatioCeilRow.holds Try.pinned (OpenSpec.ofChange fnExactRatioCeilSpec)

/-- ITS FALSE NEIGHBOUR: 'it returns false'. Refute it at one input. -/
def fnExactRatioCeilWrong : ChangeSpec := { name := "fnExactRatioCeil", fn := fun _ => fun
  | [d] => { results := [.lit (.bool false)], args := [d] }
  | _ => none }
def FnExactRatioCeilWrongFalsely : Prop := fnExactRatioCeilRow.holds Try.pinned (OpenSpec.ofChange fnExactRatioCeilWrong)

/-- 'laws.FnExactRatioMin': WHATEVER THE INPUT: true; the input reads as it did. -/
def fnExactRatioMinSpec : ChangeSpec := { name := "fnExactRatioMin", fn := fun _ => fun
  | [d1, d2] => { results := [.lit (.bool true)], args := [d1, d2] }
  | _ => none }
def fnExactRatioMinRow : OpenClaim := { program := "ytplangahbabloaa", sum := "0ca16e0cda48314b11b137f7abd0e12fc4bc6eca93160d84a7f9851cd8400740", func := "loop.example/g00832/laws.FnExactRatioMin", spec := "fnExactRatioMin", apart := false }
def FnExactRatioMinSaid : Prop := fnExactRatioMinRow.holds Try.pinned (OpenSpec.ofChange fnExactRatioMinSpec)

/-- ITS FALSE NEIGHBOUR: 'it returns false'. Refute it at one input. -/
def fnExactRatioMinWrong : ChangeSpec := { name := "fnExactRatioMin", fn := fun _ => fun
  | [d1, d2] => { results := [.lit (.bool false)], args := [d1, d2] }
  | _ => none }
def FnExactRatioMinWrongFalsely : Prop := fnExactRatioMinRow.holds Try.pinned (OpenSpec.ofChange fnExactRatioMinWrong)

/-- 'laws.FnExactRatioMax': WHATEVER THE INPUT: true; the input reads as it did. -/
def fnExactRatioMaxSpec : ChangeSpec := { name := "fnExactRatioMax", fn := fun _ => fun
  | [d1, d2] => { results := [.lit (.bool true)], args := [d1, d2] }
  | _ => none }
def fnExactRatioMaxRow : OpenClaim := { program := "ytplangahbabloaa", sum := "0ca16e0cda48314b11b137f7abd0e12fc4bc6eca93160d84a7f9851cd8400740", func := "loop.example/g00832/laws.FnExactRatioMax", spec := "fnExactRatioMax", apart := false }
def FnExactRatioMaxSaid : Prop := fnExactRatioMaxRow.holds Try.pinned (OpenSpec.ofChange fnExactRatioMaxSpec)

/-- ITS FALSE NEIGHBOUR: 'it returns false'. Refute it at one input. -/
def fnExactRatioMaxWrong : ChangeSpec := { name := "fnExactRatioMax", fn := fun _ => fun
  | [d1, d2] => { results := [.lit (.bool false)], args := [d1, d2] }
  | _ => none }
def FnExactRatioMaxWrongFalsely : Prop := fnExactRatioMaxRow.holds Try.pinned (OpenSpec.ofChange fnExactRatioMaxWrong)

/- THE SECOND FORM. 'bulk': how many values and letters a reading holds, each counted each time it is reached (what is shared counts as often as it is met; a slice's spare places count too). A statement '..UptoSaid' is the law's where the arguments, and the package variables that the reading takes, are together of bulk at most 1048576: NARROWER than '..Said'. Prove '..Said' where nothing that the law and all that it calls make is longer than what came in: it says more and counts as full. Else prove '..UptoSaid'. A law counts once. -/
mutual
def uptoBulk {H : Type} : DataW H → Nat
  | .lit (.string bytes) => bytes.length + 1
  | .lit _ => 1
  | .nil => 1
  | .ptr d => uptoBulk d + 1
  | .slice elems spare => uptoBulkAll elems + uptoBulkAll spare + 1
  | .agg parts => uptoBulkAll parts + 1
  | .iface _ d => uptoBulk d + 1
  | .map entries => uptoBulkEntries entries + 1
  | .held _ => 1
def uptoBulkAll {H : Type} : List (DataW H) → Nat
  | [] => 0
  | d :: r => uptoBulk d + uptoBulkAll r
def uptoBulkEntries {H : Type} : List (Lit × DataW H) → Nat
  | [] => 0
  | x :: r => uptoBulkEntry x + uptoBulkEntries r
def uptoBulkEntry {H : Type} : Lit × DataW H → Nat
  | (.string bytes, d) => bytes.length + uptoBulk d + 1
  | (_, d) => uptoBulk d + 1
 end
def uptoSmall : (H : Type) → List (DataW H) → Bool := fun _ ds => decide (uptoBulkAll ds ≤ 1048576)
def OpenSpec.upto (s : _root_.Go.ChangeSpec) : _root_.Go.OpenSpec := { _root_.Go.OpenSpec.ofChange s with cond := some uptoSmall }

/-- 'laws.FnExactGcdOf', WHERE WHAT IT READS IS OF BULK AT MOST 1048576: true; the input reads as it did. -/
def fnExactGcdOfUptoRow : OpenClaim := { program := "ytplangahbabloaa", sum := "0ca16e0cda48314b11b137f7abd0e12fc4bc6eca93160d84a7f9851cd8400740", func := "loop.example/g00832/laws.FnExactGcdOf", spec := "fnExactGcdOf", apart := false, narrowed := true }
def FnExactGcdOfUptoSaid : Prop := fnExactGcdOfUptoRow.holds Try.pinned (OpenSpec.upto fnExactGcdOfSpec)

/-- 'laws.FnExactRatioOk', WHERE WHAT IT READS IS OF BULK AT MOST 1048576: true; the input reads as it did. -/
def fnExactRatioOkUptoRow : OpenClaim := { program := "ytplangahbabloaa", sum := "0ca16e0cda48314b11b137f7abd0e12fc4bc6eca93160d84a7f9851cd8400740", func := "loop.example/g00832/laws.FnExactRatioOk", spec := "fnExactRatioOk", apart := false, narrowed := true }
def FnExactRatioOkUptoSaid : Prop := fnExactRatioOkUptoRow.holds Try.pinned (OpenSpec.upto fnExactRatioOkSpec)

/-- 'laws.FnExactRatioCmp', WHERE WHAT IT READS IS OF BULK AT MOST 1048576: true; the input reads as it did. -/
def fnExactRatioCmpUptoRow : OpenClaim := { program := "ytplangahbabloaa", sum := "0ca16e0cda48314b11b137f7abd0e12fc4bc6eca93160d84a7f9851cd8400740", func := "loop.example/g00832/laws.FnExactRatioCmp", spec := "fnExactRatioCmp", apart := false, narrowed := true }
def FnExactRatioCmpUptoSaid : Prop := fnExactRatioCmpUptoRow.holds Try.pinned (OpenSpec.upto fnExactRatioCmpSpec)

/-- 'laws.FnExactRatioFloor', WHERE WHAT IT READS IS OF BULK AT MOST 1048576: true; the input reads as it did. -/
def fnExactRatioFloorUptoRow : OpenClaim := { program := "ytplangahbabloaa", sum := "0ca16e0cda48314b11b137f7abd0e12fc4bc6eca93160d84a7f9851cd8400740", func := "loop.example/g00832/laws.FnExactRatioFloor", spec := "fnExactRatioFloor", apart := false, narrowed := true }
def FnExactRatioFloorUptoSaid : Prop := fnExactRatioFloorUptoRow.holds Try.pinned (OpenSpec.upto fnExactRatioFloorSpec)

/-- 'laws.FnExactRatioCeil', WHERE WHAT IT READS IS OF BULK AT MOST 1048576: true; the input reads as it did. -/
def fnExactRatioCeilUptoRow : OpenClaim := { program := "ytplangahbabloaa", sum := "0ca16e0cda48314b11b137f7abd0e12fc4bc6eca93160d84a7f9851cd8400740", func := "loop.example/g00832/laws.FnExactRatioCeil", spec := "fnExactRatioCeil", apart := false, narrowed := true }
def FnExactRatioCeilUptoSaid : Prop := fnExactRatioCeilUptoRow.holds Try.pinned (OpenSpec.upto fnExactRatioCeilSpec)

/-- 'laws.FnExactRatioMin', WHERE WHAT IT READS IS OF BULK AT MOST 1048576: true; the input reads as it did. -/
def fnExactRatioMinUptoRow : OpenClaim := { program := "ytplangahbabloaa", sum := "0ca16e0cda48314b11b137f7abd0e12fc4bc6eca93160d84a7f9851cd8400740", func := "loop.example/g00832/laws.FnExactRatioMin", spec := "fnExactRatioMin", apart := false, narrowed := true }
def FnExactRatioMinUptoSaid : Prop := fnExactRatioMinUptoRow.holds Try.pinned (OpenSpec.upto fnExactRatioMinSpec)

/-- 'laws.FnExactRatioMax', WHERE WHAT IT READS IS OF BULK AT MOST 1048576: true; the input reads as it did. -/
def fnExactRatioMaxUptoRow : OpenClaim := { program := "ytplangahbabloaa", sum := "0ca16e0cda48314b11b137f7abd0e12fc4bc6eca93160d84a7f9851cd8400740", func := "loop.example/g00832/laws.FnExactRatioMax", spec := "fnExactRatioMax", apart := false, narrowed := true }
def FnExactRatioMaxUptoSaid : Prop := fnExactRatioMaxUptoRow.holds Try.pinned (OpenSpec.upto fnExactRatioMaxSpec)

end Rows
end Go.Proofs.Ytplangahbabloaa
