/-
  No cell of these rows narrows 'for every input' (looked for: loops, veiled, ifaces, maps, wideKeys, modest, calm, conditions, laid).
  DERIVED. THE GIVEN ROWS OF THIS SEAT. 4 by the template 'for every input the law returns true; each argument reads behind the call as it read before'; 0 by the template 'total and deterministic' (their statements: YtceeninhjlonbaaGreatTotals.lean).
  GIVEN WITH THE SEED: the statements are not yours to turn. If you find one false, say at which input.
  Laid BY PROGRAM, IN A SANDBOX (cutbox-rows.mjs): the forced cells as the released guide's own fill.sh prints them over the translation b9b74e65d4ba94df… (all of the seat's roots in one cut). By AI agents, Wed Nov 11 2026. No macro, syntax, notation, axiom, sorry.
-/
import Derived.Test.YtceeninhjlonbaaGreatChecked
import GoSem.Claim
import GoSem.ClaimJoined
import GoSem.ClaimMapViews
import Derived.JoinedTies
import Derived.KernelRfl
namespace Go.Proofs.YtceeninhjlonbaaGreat
/- THE CELL 'sum', in the pinned program and in every row, IS THE sha256 OF THE DUMP (.gsa) THAT YtceeninhjlonbaaGreatProg.lean LOADS. Nothing in Lean hashes anything: it is a label: what it is worth is what the hold of that sum in a sandbox is worth. -/
noncomputable def Tryz.pinned : Pinned := { name := "ytceeninhjlonbaagreat", sum := "b9b74e65d4ba94dfa7bddb646711c0f2c69c4416ed2cebc172e21e93ff3fa3cf", checked := Tryz.checked }
namespace Rows
def none {H : Type} : Left H := { results := [], args := [] }

/-- 'laws.FnExactRobustPart': WHATEVER THE INPUT: true; the input reads as it did. -/
def fnExactRobustPartSpec : ChangeSpec := { name := "fnExactRobustPart", fn := fun _ => fun
  | [d1, d2] => { results := [.lit (.bool true)], args := [d1, d2] }
  | _ => none }
def fnExactRobustPartRow : OpenClaim := { program := "ytceeninhjlonbaagreat", sum := "b9b74e65d4ba94dfa7bddb646711c0f2c69c4416ed2cebc172e21e93ff3fa3cf", func := "loop.example/g00832/laws.FnExactRobustPart", spec := "fnExactRobustPart", unfollowed := true, recurses := true, apart := false }
def FnExactRobustPartSaid : Prop := fnExactRobustPartRow.holds Tryz.pinned (OpenSpec.ofChange fnExactRobustPartSpec)

/-- ITS FALSE NEIGHBOUR: 'it returns false'. Refute it at one input. -/
def fnExactRobustPartWrong : ChangeSpec := { name := "fnExactRobustPart", fn := fun _ => fun
  | [d1, d2] => { results := [.lit (.bool false)], args := [d1, d2] }
  | _ => none }
def FnExactRobustPartWrongFalsely : Prop := fnExactRobustPartRow.holds Tryz.pinned (OpenSpec.ofChange fnExactRobustPartWrong)

/-- 'laws.FnExactPreRegion': WHATEVER THE INPUT: true; the input reads as it did. -/
def fnExactPreRegionSpec : ChangeSpec := { name := "fnExactPreRegion", fn := fun _ => fun
  | [d1, d2] => { results := [.lit (.bool true)], args := [d1, d2] }
  | _ => none }
def fnExactPreRegionRow : OpenClaim := { program := "ytceeninhjlonbaagreat", sum := "b9b74e65d4ba94dfa7bddb646711c0f2c69c4416ed2cebc172e21e93ff3fa3cf", func := "loop.example/g00832/laws.FnExactPreRegion", spec := "fnExactPreRegion", unfollowed := true, recurses := true, apart := false }
def FnExactPreRegionSaid : Prop := fnExactPreRegionRow.holds Tryz.pinned (OpenSpec.ofChange fnExactPreRegionSpec)

/-- ITS FALSE NEIGHBOUR: 'it returns false'. Refute it at one input. -/
def fnExactPreRegionWrong : ChangeSpec := { name := "fnExactPreRegion", fn := fun _ => fun
  | [d1, d2] => { results := [.lit (.bool false)], args := [d1, d2] }
  | _ => none }
def FnExactPreRegionWrongFalsely : Prop := fnExactPreRegionRow.holds Tryz.pinned (OpenSpec.ofChange fnExactPreRegionWrong)

/-- 'laws.FnExactKeepRegion': WHATEVER THE INPUT: true; the input reads as it did. -/
def fnExactKeepRegionSpec : ChangeSpec := { name := "fnExactKeepRegion", fn := fun _ => fun
  | [d1, d2] => { results := [.lit (.bool true)], args := [d1, d2] }
  | _ => none }
def fnExactKeepRegionRow : OpenClaim := { program := "ytceeninhjlonbaagreat", sum := "b9b74e65d4ba94dfa7bddb646711c0f2c69c4416ed2cebc172e21e93ff3fa3cf", func := "loop.example/g00832/laws.FnExactKeepRegion", spec := "fnExactKeepRegion", unfollowed := true, recurses := true, apart := false }
def FnExactKeepRegionSaid : Prop := fnExactKeepRegionRow.holds Tryz.pinned (OpenSpec.ofChange fnExactKeepRegionSpec)

/-- ITS FALSE NEIGHBOUR: 'it returns false'. Refute it at one input. -/
def fnExactKeepRegionWrong : ChangeSpec := { name := "fnExactKeepRegion", fn := fun _ => fun
  | [d1, d2] => { results := [.lit (.bool false)], args := [d1, d2] }
  | _ => none }
def FnExactKeepRegionWrongFalsely : Prop := fnExactKeepRegionRow.holds Tryz.pinned (OpenSpec.ofChange fnExactKeepRegionWrong)

/-- 'laws.FnExactIsKept': WHATEVER THE INPUT: true; the input reads as it did. -/
def fnExactIsKeptSpec : ChangeSpec := { name := "fnExactIsKept", fn := fun _ => fun
  | [d1, d2] => { results := [.lit (.bool true)], args := [d1, d2] }
  | _ => none }
def fnExactIsKeptRow : OpenClaim := { program := "ytceeninhjlonbaagreat", sum := "b9b74e65d4ba94dfa7bddb646711c0f2c69c4416ed2cebc172e21e93ff3fa3cf", func := "loop.example/g00832/laws.FnExactIsKept", spec := "fnExactIsKept", unfollowed := true, recurses := true, apart := false }
def FnExactIsKeptSaid : Prop := fnExactIsKeptRow.holds Tryz.pinned (OpenSpec.ofChange fnExactIsKeptSpec)

/-- ITS FALSE NEIGHBOUR: 'it returns false'. Refute it at one input. -/
def fnExactIsKeptWrong : ChangeSpec := { name := "fnExactIsKept", fn := fun _ => fun
  | [d1, d2] => { results := [.lit (.bool false)], args := [d1, d2] }
  | _ => none }
def FnExactIsKeptWrongFalsely : Prop := fnExactIsKeptRow.holds Tryz.pinned (OpenSpec.ofChange fnExactIsKeptWrong)

/- THE SECOND FORM. 'bulk': how many values and letters a reading holds, each counted each time it is reached (what is shared counts as often as it is met; a slice's spare places count too). A statement '..UptoSaid' is the law's where the arguments, and the package variables that the reading takes, are together of bulk at most 1048576: NARROWER than '..Said'. Prove '..Said' where nothing that the law and all that it calls make is longer than what came in: it says more and counts as full. Else prove '..UptoSaid'. A law counts once. -/
mutual
def uptoBulk {H : Type} : DataW H → Nat
  | .lit (.string bytes) => bytes.length + 1
  | .lit _ => 1
  | .nil => 1
  | .ptr d => uptoBulk d + 1
  | .slice elems spare => uptoBulkAll elems + uptoBulkAll spare + 1
  | .agg parts => uptoBulkAll parts + 1
  | .iface _ d => uptoBulk d + 1
  | .map entries => uptoBulkEntries entries + 1
  | .held _ => 1
def uptoBulkAll {H : Type} : List (DataW H) → Nat
  | [] => 0
  | d :: r => uptoBulk d + uptoBulkAll r
def uptoBulkEntries {H : Type} : List (Lit × DataW H) → Nat
  | [] => 0
  | x :: r => uptoBulkEntry x + uptoBulkEntries r
def uptoBulkEntry {H : Type} : Lit × DataW H → Nat
  | (.string bytes, d) => bytes.length + uptoBulk d + 1
  | (_, d) => uptoBulk d + 1
 end
def uptoSmall : (H : Type) → List (DataW H) → Bool := fun _ ds => decide (uptoBulkAll ds ≤ 1048576)
def OpenSpec.upto (s : _root_.Go.ChangeSpec) : _root_.Go.OpenSpec := { _root_.Go.OpenSpec.ofChange s with cond := some uptoSmall }

/-- 'laws.FnExactRobustPart', WHERE WHAT IT READS IS OF BULK AT MOST 1048576: true; the input reads as it did. -/
def fnExactRobustPartUptoRow : OpenClaim := { program := "ytceeninhjlonbaagreat", sum := "b9b74e65d4ba94dfa7bddb646711c0f2c69c4416ed2cebc172e21e93ff3fa3cf", func := "loop.example/g00832/laws.FnExactRobustPart", spec := "fnExactRobustPart", unfollowed := true, recurses := true, apart := false, narrowed := true }
def FnExactRobustPartUptoSaid : Prop := fnExactRobustPartUptoRow.holds Tryz.pinned (OpenSpec.upto fnExactRobustPartSpec)

/-- 'laws.FnExactPreRegion', WHERE WHAT IT READS IS OF BULK AT MOST 1048576: true; the input reads as it did. -/
def fnExactPreRegionUptoRow : OpenClaim := { program := "ytceeninhjlonbaagreat", sum := "b9b74e65d4ba94dfa7bddb646711c0f2c69c4416ed2cebc172e21e93ff3fa3cf", func := "loop.example/g00832/laws.FnExactPreRegion", spec := "fnExactPreRegion", unfollowed := true, recurses := true, apart := false, narrowed := true }
def FnExactPreRegionUptoSaid : Prop := fnExactPreRegionUptoRow.holds Tryz.pinned (OpenSpec.upto fnExactPreRegionSpec)

/-- 'laws.FnExactKeepRegion', WHERE WHAT IT READS IS OF BULK AT MOST 1048576: true; the input reads as it did. -/
def fnExactKeepRegionUptoRow : OpenClaim := { program := "ytceeninhjlonbaagreat", sum := "b9b74e65d4ba94dfa7bddb646711c0f2c69c4416ed2cebc172e21e93ff3fa3cf", func := "loop.example/g00832/laws.FnExactKeepRegion", spec := "fnExactKeepRegion", unfollowed := true, recurses := true, apart := false, narrowed := true }
def FnExactKeepRegionUptoSaid : Prop := fnExactKeepRegionUptoRow.holds Tryz.pinned (OpenSpec.upto fnExactKeepRegionSpec)

/-- 'laws.FnExactIsKept', WHERE WHAT IT READS IS OF BULK AT MOST 1048576: true; the input reads as it did. -/
def fnExactIsKeptUptoRow : OpenClaim := { program := "ytceeninhjlonbaagreat", sum := "b9b74e65d4ba94dfa7bddb646711c0f2c69c4416ed2cebc172e21e93ff3fa3cf", func := "loop.example/g00832/laws.FnExactIsKept", spec := "fnExactIsKept", unfollowed := true, recurses := true, apart := false, narrowed := true }
def FnExactIsKeptUptoSaid : Prop := fnExactIsKeptUptoRow.holds Tryz.pinned (OpenSpec.upto fnExactIsKeptSpec)

end Rows
end Go.Proofs.YtceeninhjlonbaaGreat
