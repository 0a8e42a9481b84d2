/-
  No cell of these rows narrows 'for every input' (looked for: loops, veiled, ifaces, maps, wideKeys, modest, calm, conditions, laid).
  DERIVED. THE GIVEN ROWS OF THIS SEAT. 8 by the template 'for every input the law returns true; each argument reads behind the call as it read before'; 0 by the template 'total and deterministic' (their statements: YtceeninhjlonbaaTotals.lean).
  GIVEN WITH THE SEED: the statements are not yours to turn. If you find one false, say at which input.
  Laid BY PROGRAM, IN A SANDBOX (cutbox-rows.mjs): the forced cells as the released guide's own fill.sh prints them over the translation e7cb1effca6e4fea… (all of the seat's roots in one cut). By AI agents, Wed Nov 11 2026. No macro, syntax, notation, axiom, sorry.
-/
import Derived.Test.YtceeninhjlonbaaChecked
import GoSem.Claim
import GoSem.ClaimJoined
import GoSem.ClaimMapViews
import Derived.JoinedTies
import Derived.KernelRfl
namespace Go.Proofs.Ytceeninhjlonbaa
/- THE CELL 'sum', in the pinned program and in every row, IS THE sha256 OF THE DUMP (.gsa) THAT YtceeninhjlonbaaProg.lean LOADS. Nothing in Lean hashes anything: it is a label: what it is worth is what the hold of that sum in a sandbox is worth. -/
noncomputable def Try.pinned : Pinned := { name := "ytceeninhjlonbaa", sum := "e7cb1effca6e4fea40fbba98bb71279b9387c39f71d31fdc5e92afec5028a7f9", checked := Try.checked }
namespace Rows
def none {H : Type} : Left H := { results := [], args := [] }

/-- 'laws.FnExactIsHeld': WHATEVER THE INPUT: true; the input reads as it did. -/
def fnExactIsHeldSpec : ChangeSpec := { name := "fnExactIsHeld", fn := fun _ => fun
  | [d1, d2, d3, d4] => { results := [.lit (.bool true)], args := [d1, d2, d3, d4] }
  | _ => none }
def fnExactIsHeldRow : OpenClaim := { program := "ytceeninhjlonbaa", sum := "e7cb1effca6e4fea40fbba98bb71279b9387c39f71d31fdc5e92afec5028a7f9", func := "loop.example/g00832/laws.FnExactIsHeld", spec := "fnExactIsHeld", unfollowed := true, recurses := true, apart := false }
def FnExactIsHeldSaid : Prop := fnExactIsHeldRow.holds Try.pinned (OpenSpec.ofChange fnExactIsHeldSpec)

/-- ITS FALSE NEIGHBOUR: 'it returns false'. Refute it at one input. -/
def fnExactIsHeldWrong : ChangeSpec := { name := "fnExactIsHeld", fn := fun _ => fun
  | [d1, d2, d3, d4] => { results := [.lit (.bool false)], args := [d1, d2, d3, d4] }
  | _ => none }
def FnExactIsHeldWrongFalsely : Prop := fnExactIsHeldRow.holds Try.pinned (OpenSpec.ofChange fnExactIsHeldWrong)

/-- 'laws.FnExactWithRange': WHATEVER THE INPUT: true; the input reads as it did. -/
def fnExactWithRangeSpec : ChangeSpec := { name := "fnExactWithRange", fn := fun _ => fun
  | [d1, d2, d3] => { results := [.lit (.bool true)], args := [d1, d2, d3] }
  | _ => none }
def fnExactWithRangeRow : OpenClaim := { program := "ytceeninhjlonbaa", sum := "e7cb1effca6e4fea40fbba98bb71279b9387c39f71d31fdc5e92afec5028a7f9", func := "loop.example/g00832/laws.FnExactWithRange", spec := "fnExactWithRange", unfollowed := true, recurses := true, apart := false }
def FnExactWithRangeSaid : Prop := fnExactWithRangeRow.holds Try.pinned (OpenSpec.ofChange fnExactWithRangeSpec)

/-- ITS FALSE NEIGHBOUR: 'it returns false'. Refute it at one input. -/
def fnExactWithRangeWrong : ChangeSpec := { name := "fnExactWithRange", fn := fun _ => fun
  | [d1, d2, d3] => { results := [.lit (.bool false)], args := [d1, d2, d3] }
  | _ => none }
def FnExactWithRangeWrongFalsely : Prop := fnExactWithRangeRow.holds Try.pinned (OpenSpec.ofChange fnExactWithRangeWrong)

/-- 'laws.FnExactWithNoise': WHATEVER THE INPUT: true; the input reads as it did. -/
def fnExactWithNoiseSpec : ChangeSpec := { name := "fnExactWithNoise", fn := fun _ => fun
  | [d1, d2] => { results := [.lit (.bool true)], args := [d1, d2] }
  | _ => none }
def fnExactWithNoiseRow : OpenClaim := { program := "ytceeninhjlonbaa", sum := "e7cb1effca6e4fea40fbba98bb71279b9387c39f71d31fdc5e92afec5028a7f9", func := "loop.example/g00832/laws.FnExactWithNoise", spec := "fnExactWithNoise", unfollowed := true, recurses := true, apart := false }
def FnExactWithNoiseSaid : Prop := fnExactWithNoiseRow.holds Try.pinned (OpenSpec.ofChange fnExactWithNoiseSpec)

/-- ITS FALSE NEIGHBOUR: 'it returns false'. Refute it at one input. -/
def fnExactWithNoiseWrong : ChangeSpec := { name := "fnExactWithNoise", fn := fun _ => fun
  | [d1, d2] => { results := [.lit (.bool false)], args := [d1, d2] }
  | _ => none }
def FnExactWithNoiseWrongFalsely : Prop := fnExactWithNoiseRow.holds Try.pinned (OpenSpec.ofChange fnExactWithNoiseWrong)

/-- 'laws.FnExactWidthOf': WHATEVER THE INPUT: true; the input reads as it did. -/
def fnExactWidthOfSpec : ChangeSpec := { name := "fnExactWidthOf", fn := fun _ => fun
  | [d1, d2, d3] => { results := [.lit (.bool true)], args := [d1, d2, d3] }
  | _ => none }
def fnExactWidthOfRow : OpenClaim := { program := "ytceeninhjlonbaa", sum := "e7cb1effca6e4fea40fbba98bb71279b9387c39f71d31fdc5e92afec5028a7f9", func := "loop.example/g00832/laws.FnExactWidthOf", spec := "fnExactWidthOf", unfollowed := true, recurses := true, apart := false }
def FnExactWidthOfSaid : Prop := fnExactWidthOfRow.holds Try.pinned (OpenSpec.ofChange fnExactWidthOfSpec)

/-- ITS FALSE NEIGHBOUR: 'it returns false'. Refute it at one input. -/
def fnExactWidthOfWrong : ChangeSpec := { name := "fnExactWidthOf", fn := fun _ => fun
  | [d1, d2, d3] => { results := [.lit (.bool false)], args := [d1, d2, d3] }
  | _ => none }
def FnExactWidthOfWrongFalsely : Prop := fnExactWidthOfRow.holds Try.pinned (OpenSpec.ofChange fnExactWidthOfWrong)

/-- 'laws.FnRegions': WHATEVER THE INPUT: true; the input reads as it did. -/
def fnRegionsSpec : ChangeSpec := { name := "fnRegions", fn := fun _ => fun
  | [d] => { results := [.lit (.bool true)], args := [d] }
  | _ => none }
def fnRegionsRow : OpenClaim := { program := "ytceeninhjlonbaa", sum := "e7cb1effca6e4fea40fbba98bb71279b9387c39f71d31fdc5e92afec5028a7f9", func := "loop.example/g00832/laws.FnRegions", spec := "fnRegions", unfollowed := true, recurses := true, apart := false }
def FnRegionsSaid : Prop := fnRegionsRow.holds Try.pinned (OpenSpec.ofChange fnRegionsSpec)

/-- ITS FALSE NEIGHBOUR: 'it returns false'. Refute it at one input. -/
def fnRegionsWrong : ChangeSpec := { name := "fnRegions", fn := fun _ => fun
  | [d] => { results := [.lit (.bool false)], args := [d] }
  | _ => none }
def FnRegionsWrongFalsely : Prop := fnRegionsRow.holds Try.pinned (OpenSpec.ofChange fnRegionsWrong)

/-- 'laws.FnPulled': WHATEVER THE INPUT: true; the input reads as it did. -/
def fnPulledSpec : ChangeSpec := { name := "fnPulled", fn := fun _ => fun
  | [d] => { results := [.lit (.bool true)], args := [d] }
  | _ => none }
def fnPulledRow : OpenClaim := { program := "ytceeninhjlonbaa", sum := "e7cb1effca6e4fea40fbba98bb71279b9387c39f71d31fdc5e92afec5028a7f9", func := "loop.example/g00832/laws.FnPulled", spec := "fnPulled", unfollowed := true, recurses := true, apart := false }
def FnPulledSaid : Prop := fnPulledRow.holds Try.pinned (OpenSpec.ofChange fnPulledSpec)

/-- ITS FALSE NEIGHBOUR: 'it returns false'. Refute it at one input. -/
def fnPulledWrong : ChangeSpec := { name := "fnPulled", fn := fun _ => fun
  | [d] => { results := [.lit (.bool false)], args := [d] }
  | _ => none }
def FnPulledWrongFalsely : Prop := fnPulledRow.holds Try.pinned (OpenSpec.ofChange fnPulledWrong)

/-- 'laws.FnGrown': WHATEVER THE INPUT: true; the input reads as it did. -/
def fnGrownSpec : ChangeSpec := { name := "fnGrown", fn := fun _ => fun
  | [d] => { results := [.lit (.bool true)], args := [d] }
  | _ => none }
def fnGrownRow : OpenClaim := { program := "ytceeninhjlonbaa", sum := "e7cb1effca6e4fea40fbba98bb71279b9387c39f71d31fdc5e92afec5028a7f9", func := "loop.example/g00832/laws.FnGrown", spec := "fnGrown", unfollowed := true, recurses := true, apart := false }
def FnGrownSaid : Prop := fnGrownRow.holds Try.pinned (OpenSpec.ofChange fnGrownSpec)

/-- ITS FALSE NEIGHBOUR: 'it returns false'. Refute it at one input. -/
def fnGrownWrong : ChangeSpec := { name := "fnGrown", fn := fun _ => fun
  | [d] => { results := [.lit (.bool false)], args := [d] }
  | _ => none }
def FnGrownWrongFalsely : Prop := fnGrownRow.holds Try.pinned (OpenSpec.ofChange fnGrownWrong)

/-- 'laws.FnSupports': WHATEVER THE INPUT: true; the input reads as it did. -/
def fnSupportsSpec : ChangeSpec := { name := "fnSupports", fn := fun _ => fun
  | [d] => { results := [.lit (.bool true)], args := [d] }
  | _ => none }
def fnSupportsRow : OpenClaim := { program := "ytceeninhjlonbaa", sum := "e7cb1effca6e4fea40fbba98bb71279b9387c39f71d31fdc5e92afec5028a7f9", func := "loop.example/g00832/laws.FnSupports", spec := "fnSupports", unfollowed := true, recurses := true, apart := false }
def FnSupportsSaid : Prop := fnSupportsRow.holds Try.pinned (OpenSpec.ofChange fnSupportsSpec)

/-- ITS FALSE NEIGHBOUR: 'it returns false'. Refute it at one input. -/
def fnSupportsWrong : ChangeSpec := { name := "fnSupports", fn := fun _ => fun
  | [d] => { results := [.lit (.bool false)], args := [d] }
  | _ => none }
def FnSupportsWrongFalsely : Prop := fnSupportsRow.holds Try.pinned (OpenSpec.ofChange fnSupportsWrong)

/- THE SECOND FORM. 'bulk': how many values and letters a reading holds, each counted each time it is reached (what is shared counts as often as it is met; a slice's spare places count too). A statement '..UptoSaid' is the law's where the arguments, and the package variables that the reading takes, are together of bulk at most 1048576: NARROWER than '..Said'. Prove '..Said' where nothing that the law and all that it calls make is longer than what came in: it says more and counts as full. Else prove '..UptoSaid'. A law counts once. -/
mutual
def uptoBulk {H : Type} : DataW H → Nat
  | .lit (.string bytes) => bytes.length + 1
  | .lit _ => 1
  | .nil => 1
  | .ptr d => uptoBulk d + 1
  | .slice elems spare => uptoBulkAll elems + uptoBulkAll spare + 1
  | .agg parts => uptoBulkAll parts + 1
  | .iface _ d => uptoBulk d + 1
  | .map entries => uptoBulkEntries entries + 1
  | .held _ => 1
def uptoBulkAll {H : Type} : List (DataW H) → Nat
  | [] => 0
  | d :: r => uptoBulk d + uptoBulkAll r
def uptoBulkEntries {H : Type} : List (Lit × DataW H) → Nat
  | [] => 0
  | x :: r => uptoBulkEntry x + uptoBulkEntries r
def uptoBulkEntry {H : Type} : Lit × DataW H → Nat
  | (.string bytes, d) => bytes.length + uptoBulk d + 1
  | (_, d) => uptoBulk d + 1
 end
def uptoSmall : (H : Type) → List (DataW H) → Bool := fun _ ds => decide (uptoBulkAll ds ≤ 1048576)
def OpenSpec.upto (s : _root_.Go.ChangeSpec) : _root_.Go.OpenSpec := { _root_.Go.OpenSpec.ofChange s with cond := some uptoSmall }

/-- 'laws.FnExactIsHeld', WHERE WHAT IT READS IS OF BULK AT MOST 1048576: true; the input reads as it did. -/
def fnExactIsHeldUptoRow : OpenClaim := { program := "ytceeninhjlonbaa", sum := "e7cb1effca6e4fea40fbba98bb71279b9387c39f71d31fdc5e92afec5028a7f9", func := "loop.example/g00832/laws.FnExactIsHeld", spec := "fnExactIsHeld", unfollowed := true, recurses := true, apart := false, narrowed := true }
def FnExactIsHeldUptoSaid : Prop := fnExactIsHeldUptoRow.holds Try.pinned (OpenSpec.upto fnExactIsHeldSpec)

/-- 'laws.FnExactWithRange', WHERE WHAT IT READS IS OF BULK AT MOST 1048576: true; the input reads as it did. -/
def fnExactWithRangeUptoRow : OpenClaim := { program := "ytceeninhjlonbaa", sum := "e7cb1effca6e4fea40fbba98bb71279b9387c39f71d31fdc5e92afec5028a7f9", func := "loop.example/g00832/laws.FnExactWithRange", spec := "fnExactWithRange", unfollowed := true, recurses := true, apart := false, narrowed := true }
def FnExactWithRangeUptoSaid : Prop := fnExactWithRangeUptoRow.holds Try.pinned (OpenSpec.upto fnExactWithRangeSpec)

/-- 'laws.FnExactWithNoise', WHERE WHAT IT READS IS OF BULK AT MOST 1048576: true; the input reads as it did. -/
def fnExactWithNoiseUptoRow : OpenClaim := { program := "ytceeninhjlonbaa", sum := "e7cb1effca6e4fea40fbba98bb71279b9387c39f71d31fdc5e92afec5028a7f9", func := "loop.example/g00832/laws.FnExactWithNoise", spec := "fnExactWithNoise", unfollowed := true, recurses := true, apart := false, narrowed := true }
def FnExactWithNoiseUptoSaid : Prop := fnExactWithNoiseUptoRow.holds Try.pinned (OpenSpec.upto fnExactWithNoiseSpec)

/-- 'laws.FnExactWidthOf', WHERE WHAT IT READS IS OF BULK AT MOST 1048576: true; the input reads as it did. -/
def fnExactWidthOfUptoRow : OpenClaim := { program := "ytceeninhjlonbaa", sum := "e7cb1effca6e4fea40fbba98bb71279b9387c39f71d31fdc5e92afec5028a7f9", func := "loop.example/g00832/laws.FnExactWidthOf", spec := "fnExactWidthOf", unfollowed := true, recurses := true, apart := false, narrowed := true }
def FnExactWidthOfUptoSaid : Prop := fnExactWidthOfUptoRow.holds Try.pinned (OpenSpec.upto fnExactWidthOfSpec)

/-- 'laws.FnRegions', WHERE WHAT IT READS IS OF BULK AT MOST 1048576: true; the input reads as it did. -/
def fnRegionsUptoRow : OpenClaim := { program := "ytceeninhjlonbaa", sum := "e7cb1effca6e4fea40fbba98bb71279b9387c39f71d31fdc5e92afec5028a7f9", func := "loop.example/g00832/laws.FnRegions", spec := "fnRegions", unfollowed := true, recurses := true, apart := false, narrowed := true }
def FnRegionsUptoSaid : Prop := fnRegionsUptoRow.holds Try.pinned (OpenSpec.upto fnRegionsSpec)

/-- 'laws.FnPulled', WHERE WHAT IT READS IS OF BULK AT MOST 1048576: true; the input reads as it did. -/
def fnPulledUptoRow : OpenClaim := { program := "ytceeninhjlonbaa", sum := "e7cb1effca6e4fea40fbba98bb71279b9387c39f71d31fdc5e92afec5028a7f9", func := "loop.example/g00832/laws.FnPulled", spec := "fnPulled", unfollowed := true, recurses := true, apart := false, narrowed := true }
def FnPulledUptoSaid : Prop := fnPulledUptoRow.holds Try.pinned (OpenSpec.upto fnPulledSpec)

/-- 'laws.FnGrown', WHERE WHAT IT READS IS OF BULK AT MOST 1048576: true; the input reads as it did. -/
def fnGrownUptoRow : OpenClaim := { program := "ytceeninhjlonbaa", sum := "e7cb1effca6e4fea40fbba98bb71279b9387c39f71d31fdc5e92afec5028a7f9", func := "loop.example/g00832/laws.FnGrown", spec := "fnGrown", unfollowed := true, recurses := true, apart := false, narrowed := true }
def FnGrownUptoSaid : Prop := fnGrownUptoRow.holds Try.pinned (OpenSpec.upto fnGrownSpec)

/-- 'laws.FnSupports', WHERE WHAT IT READS IS OF BULK AT MOST 1048576: true; the input reads as it did. -/
def fnSupportsUptoRow : OpenClaim := { program := "ytceeninhjlonbaa", sum := "e7cb1effca6e4fea40fbba98bb71279b9387c39f71d31fdc5e92afec5028a7f9", func := "loop.example/g00832/laws.FnSupports", spec := "fnSupports", unfollowed := true, recurses := true, apart := false, narrowed := true }
def FnSupportsUptoSaid : Prop := fnSupportsUptoRow.holds Try.pinned (OpenSpec.upto fnSupportsSpec)

end Rows
end Go.Proofs.Ytceeninhjlonbaa
