/-
  No cell of these rows narrows 'for every input' (looked for: loops, veiled, ifaces, maps, wideKeys, modest, calm, conditions, laid).
  DERIVED. THE GIVEN ROWS OF THIS SEAT. 8 by the template 'for every input the law returns true; each argument reads behind the call as it read before'; 0 by the template 'total and deterministic' (their statements: YtdjjncofahnaaaaGreatTotals.lean).
  GIVEN WITH THE SEED: the statements are not yours to turn. If you find one false, say at which input.
  Laid BY PROGRAM, IN A SANDBOX (cutbox-rows.mjs): the forced cells as the released guide's own fill.sh prints them over the translation 7532439bad755a5e… (all of the seat's roots in one cut). By AI agents, Wed Nov 11 2026. No macro, syntax, notation, axiom, sorry.
-/
import Derived.Test.YtdjjncofahnaaaaGreatChecked
import GoSem.Claim
import GoSem.ClaimJoined
import GoSem.ClaimMapViews
import Derived.JoinedTies
import Derived.KernelRfl
namespace Go.Proofs.YtdjjncofahnaaaaGreat
/- THE CELL 'sum', in the pinned program and in every row, IS THE sha256 OF THE DUMP (.gsa) THAT YtdjjncofahnaaaaGreatProg.lean LOADS. Nothing in Lean hashes anything: it is a label: what it is worth is what the hold of that sum in a sandbox is worth. -/
noncomputable def Tryz.pinned : Pinned := { name := "ytdjjncofahnaaaagreat", sum := "7532439bad755a5e01d985fbecfb587b6f15a2b58bbec9cbbb12939979f8b6b1", checked := Tryz.checked }
namespace Rows
def none {H : Type} : Left H := { results := [], args := [] }

/-- 'laws.FnKept': WHATEVER THE INPUT: true; the input reads as it did. -/
def fnKeptSpec : ChangeSpec := { name := "fnKept", fn := fun _ => fun
  | [d] => { results := [.lit (.bool true)], args := [d] }
  | _ => none }
def fnKeptRow : OpenClaim := { program := "ytdjjncofahnaaaagreat", sum := "7532439bad755a5e01d985fbecfb587b6f15a2b58bbec9cbbb12939979f8b6b1", func := "loop.example/g00832/laws.FnKept", spec := "fnKept", unfollowed := true, recurses := true, apart := false }
def FnKeptSaid : Prop := fnKeptRow.holds Tryz.pinned (OpenSpec.ofChange fnKeptSpec)

/-- ITS FALSE NEIGHBOUR: 'it returns false'. Refute it at one input. -/
def fnKeptWrong : ChangeSpec := { name := "fnKept", fn := fun _ => fun
  | [d] => { results := [.lit (.bool false)], args := [d] }
  | _ => none }
def FnKeptWrongFalsely : Prop := fnKeptRow.holds Tryz.pinned (OpenSpec.ofChange fnKeptWrong)

/-- 'laws.FnRounds': WHATEVER THE INPUT: true; the input reads as it did. -/
def fnRoundsSpec : ChangeSpec := { name := "fnRounds", fn := fun _ => fun
  | [d] => { results := [.lit (.bool true)], args := [d] }
  | _ => none }
def fnRoundsRow : OpenClaim := { program := "ytdjjncofahnaaaagreat", sum := "7532439bad755a5e01d985fbecfb587b6f15a2b58bbec9cbbb12939979f8b6b1", func := "loop.example/g00832/laws.FnRounds", spec := "fnRounds", unfollowed := true, recurses := true, apart := false }
def FnRoundsSaid : Prop := fnRoundsRow.holds Tryz.pinned (OpenSpec.ofChange fnRoundsSpec)

/-- ITS FALSE NEIGHBOUR: 'it returns false'. Refute it at one input. -/
def fnRoundsWrong : ChangeSpec := { name := "fnRounds", fn := fun _ => fun
  | [d] => { results := [.lit (.bool false)], args := [d] }
  | _ => none }
def FnRoundsWrongFalsely : Prop := fnRoundsRow.holds Tryz.pinned (OpenSpec.ofChange fnRoundsWrong)

/-- 'laws.FnRanges': WHATEVER THE INPUT: true; the input reads as it did. -/
def fnRangesSpec : ChangeSpec := { name := "fnRanges", fn := fun _ => fun
  | [d] => { results := [.lit (.bool true)], args := [d] }
  | _ => none }
def fnRangesRow : OpenClaim := { program := "ytdjjncofahnaaaagreat", sum := "7532439bad755a5e01d985fbecfb587b6f15a2b58bbec9cbbb12939979f8b6b1", func := "loop.example/g00832/laws.FnRanges", spec := "fnRanges", unfollowed := true, recurses := true, apart := false }
def FnRangesSaid : Prop := fnRangesRow.holds Tryz.pinned (OpenSpec.ofChange fnRangesSpec)

/-- ITS FALSE NEIGHBOUR: 'it returns false'. Refute it at one input. -/
def fnRangesWrong : ChangeSpec := { name := "fnRanges", fn := fun _ => fun
  | [d] => { results := [.lit (.bool false)], args := [d] }
  | _ => none }
def FnRangesWrongFalsely : Prop := fnRangesRow.holds Tryz.pinned (OpenSpec.ofChange fnRangesWrong)

/-- 'laws.FnExactRunRounds': WHATEVER THE INPUT: true; the input reads as it did. -/
def fnExactRunRoundsSpec : ChangeSpec := { name := "fnExactRunRounds", fn := fun _ => fun
  | [d1, d2] => { results := [.lit (.bool true)], args := [d1, d2] }
  | _ => none }
def fnExactRunRoundsRow : OpenClaim := { program := "ytdjjncofahnaaaagreat", sum := "7532439bad755a5e01d985fbecfb587b6f15a2b58bbec9cbbb12939979f8b6b1", func := "loop.example/g00832/laws.FnExactRunRounds", spec := "fnExactRunRounds", unfollowed := true, recurses := true, apart := false }
def FnExactRunRoundsSaid : Prop := fnExactRunRoundsRow.holds Tryz.pinned (OpenSpec.ofChange fnExactRunRoundsSpec)

/-- ITS FALSE NEIGHBOUR: 'it returns false'. Refute it at one input. -/
def fnExactRunRoundsWrong : ChangeSpec := { name := "fnExactRunRounds", fn := fun _ => fun
  | [d1, d2] => { results := [.lit (.bool false)], args := [d1, d2] }
  | _ => none }
def FnExactRunRoundsWrongFalsely : Prop := fnExactRunRoundsRow.holds Tryz.pinned (OpenSpec.ofChange fnExactRunRoundsWrong)

/-- 'laws.FnExactKeptRegion': WHATEVER THE INPUT: true; the input reads as it did. -/
def fnExactKeptRegionSpec : ChangeSpec := { name := "fnExactKeptRegion", fn := fun _ => fun
  | [d] => { results := [.lit (.bool true)], args := [d] }
  | _ => none }
def fnExactKeptRegionRow : OpenClaim := { program := "ytdjjncofahnaaaagreat", sum := "7532439bad755a5e01d985fbecfb587b6f15a2b58bbec9cbbb12939979f8b6b1", func := "loop.example/g00832/laws.FnExactKeptRegion", spec := "fnExactKeptRegion", unfollowed := true, recurses := true, apart := false }
def FnExactKeptRegionSaid : Prop := fnExactKeptRegionRow.holds Tryz.pinned (OpenSpec.ofChange fnExactKeptRegionSpec)

/-- ITS FALSE NEIGHBOUR: 'it returns false'. Refute it at one input. -/
def fnExactKeptRegionWrong : ChangeSpec := { name := "fnExactKeptRegion", fn := fun _ => fun
  | [d] => { results := [.lit (.bool false)], args := [d] }
  | _ => none }
def FnExactKeptRegionWrongFalsely : Prop := fnExactKeptRegionRow.holds Tryz.pinned (OpenSpec.ofChange fnExactKeptRegionWrong)

/-- 'laws.FnExactRoundsOf': WHATEVER THE INPUT: true; the input reads as it did. -/
def fnExactRoundsOfSpec : ChangeSpec := { name := "fnExactRoundsOf", fn := fun _ => fun
  | [d] => { results := [.lit (.bool true)], args := [d] }
  | _ => none }
def fnExactRoundsOfRow : OpenClaim := { program := "ytdjjncofahnaaaagreat", sum := "7532439bad755a5e01d985fbecfb587b6f15a2b58bbec9cbbb12939979f8b6b1", func := "loop.example/g00832/laws.FnExactRoundsOf", spec := "fnExactRoundsOf", unfollowed := true, recurses := true, apart := false }
def FnExactRoundsOfSaid : Prop := fnExactRoundsOfRow.holds Tryz.pinned (OpenSpec.ofChange fnExactRoundsOfSpec)

/-- ITS FALSE NEIGHBOUR: 'it returns false'. Refute it at one input. -/
def fnExactRoundsOfWrong : ChangeSpec := { name := "fnExactRoundsOf", fn := fun _ => fun
  | [d] => { results := [.lit (.bool false)], args := [d] }
  | _ => none }
def FnExactRoundsOfWrongFalsely : Prop := fnExactRoundsOfRow.holds Tryz.pinned (OpenSpec.ofChange fnExactRoundsOfWrong)

/-- 'laws.FnExactLossOf': WHATEVER THE INPUT: true; the input reads as it did. -/
def fnExactLossOfSpec : ChangeSpec := { name := "fnExactLossOf", fn := fun _ => fun
  | [d1, d2] => { results := [.lit (.bool true)], args := [d1, d2] }
  | _ => none }
def fnExactLossOfRow : OpenClaim := { program := "ytdjjncofahnaaaagreat", sum := "7532439bad755a5e01d985fbecfb587b6f15a2b58bbec9cbbb12939979f8b6b1", func := "loop.example/g00832/laws.FnExactLossOf", spec := "fnExactLossOf", unfollowed := true, recurses := true, apart := false }
def FnExactLossOfSaid : Prop := fnExactLossOfRow.holds Tryz.pinned (OpenSpec.ofChange fnExactLossOfSpec)

/-- ITS FALSE NEIGHBOUR: 'it returns false'. Refute it at one input. -/
def fnExactLossOfWrong : ChangeSpec := { name := "fnExactLossOf", fn := fun _ => fun
  | [d1, d2] => { results := [.lit (.bool false)], args := [d1, d2] }
  | _ => none }
def FnExactLossOfWrongFalsely : Prop := fnExactLossOfRow.holds Tryz.pinned (OpenSpec.ofChange fnExactLossOfWrong)

/-- 'laws.FnExactCanBeKept': WHATEVER THE INPUT: true; the input reads as it did. -/
def fnExactCanBeKeptSpec : ChangeSpec := { name := "fnExactCanBeKept", fn := fun _ => fun
  | [d1, d2] => { results := [.lit (.bool true)], args := [d1, d2] }
  | _ => none }
def fnExactCanBeKeptRow : OpenClaim := { program := "ytdjjncofahnaaaagreat", sum := "7532439bad755a5e01d985fbecfb587b6f15a2b58bbec9cbbb12939979f8b6b1", func := "loop.example/g00832/laws.FnExactCanBeKept", spec := "fnExactCanBeKept", unfollowed := true, recurses := true, apart := false }
def FnExactCanBeKeptSaid : Prop := fnExactCanBeKeptRow.holds Tryz.pinned (OpenSpec.ofChange fnExactCanBeKeptSpec)

/-- ITS FALSE NEIGHBOUR: 'it returns false'. Refute it at one input. -/
def fnExactCanBeKeptWrong : ChangeSpec := { name := "fnExactCanBeKept", fn := fun _ => fun
  | [d1, d2] => { results := [.lit (.bool false)], args := [d1, d2] }
  | _ => none }
def FnExactCanBeKeptWrongFalsely : Prop := fnExactCanBeKeptRow.holds Tryz.pinned (OpenSpec.ofChange fnExactCanBeKeptWrong)

/- THE SECOND FORM. 'bulk': how many values and letters a reading holds, each counted each time it is reached (what is shared counts as often as it is met; a slice's spare places count too). A statement '..UptoSaid' is the law's where the arguments, and the package variables that the reading takes, are together of bulk at most 1048576: NARROWER than '..Said'. Prove '..Said' where nothing that the law and all that it calls make is longer than what came in: it says more and counts as full. Else prove '..UptoSaid'. A law counts once. -/
mutual
def uptoBulk {H : Type} : DataW H → Nat
  | .lit (.string bytes) => bytes.length + 1
  | .lit _ => 1
  | .nil => 1
  | .ptr d => uptoBulk d + 1
  | .slice elems spare => uptoBulkAll elems + uptoBulkAll spare + 1
  | .agg parts => uptoBulkAll parts + 1
  | .iface _ d => uptoBulk d + 1
  | .map entries => uptoBulkEntries entries + 1
  | .held _ => 1
def uptoBulkAll {H : Type} : List (DataW H) → Nat
  | [] => 0
  | d :: r => uptoBulk d + uptoBulkAll r
def uptoBulkEntries {H : Type} : List (Lit × DataW H) → Nat
  | [] => 0
  | x :: r => uptoBulkEntry x + uptoBulkEntries r
def uptoBulkEntry {H : Type} : Lit × DataW H → Nat
  | (.string bytes, d) => bytes.length + uptoBulk d + 1
  | (_, d) => uptoBulk d + 1
 end
def uptoSmall : (H : Type) → List (DataW H) → Bool := fun _ ds => decide (uptoBulkAll ds ≤ 1048576)
def OpenSpec.upto (s : _root_.Go.ChangeSpec) : _root_.Go.OpenSpec := { _root_.Go.OpenSpec.ofChange s with cond := some uptoSmall }

/-- 'laws.FnKept', WHERE WHAT IT READS IS OF BULK AT MOST 1048576: true; the input reads as it did. -/
def fnKeptUptoRow : OpenClaim := { program := "ytdjjncofahnaaaagreat", sum := "7532439bad755a5e01d985fbecfb587b6f15a2b58bbec9cbbb12939979f8b6b1", func := "loop.example/g00832/laws.FnKept", spec := "fnKept", unfollowed := true, recurses := true, apart := false, narrowed := true }
def FnKeptUptoSaid : Prop := fnKeptUptoRow.holds Tryz.pinned (OpenSpec.upto fnKeptSpec)

/-- 'laws.FnRounds', WHERE WHAT IT READS IS OF BULK AT MOST 1048576: true; the input reads as it did. -/
def fnRoundsUptoRow : OpenClaim := { program := "ytdjjncofahnaaaagreat", sum := "7532439bad755a5e01d985fbecfb587b6f15a2b58bbec9cbbb12939979f8b6b1", func := "loop.example/g00832/laws.FnRounds", spec := "fnRounds", unfollowed := true, recurses := true, apart := false, narrowed := true }
def FnRoundsUptoSaid : Prop := fnRoundsUptoRow.holds Tryz.pinned (OpenSpec.upto fnRoundsSpec)

/-- 'laws.FnRanges', WHERE WHAT IT READS IS OF BULK AT MOST 1048576: true; the input reads as it did. -/
def fnRangesUptoRow : OpenClaim := { program := "ytdjjncofahnaaaagreat", sum := "7532439bad755a5e01d985fbecfb587b6f15a2b58bbec9cbbb12939979f8b6b1", func := "loop.example/g00832/laws.FnRanges", spec := "fnRanges", unfollowed := true, recurses := true, apart := false, narrowed := true }
def FnRangesUptoSaid : Prop := fnRangesUptoRow.holds Tryz.pinned (OpenSpec.upto fnRangesSpec)

/-- 'laws.FnExactRunRounds', WHERE WHAT IT READS IS OF BULK AT MOST 1048576: true; the input reads as it did. -/
def fnExactRunRoundsUptoRow : OpenClaim := { program := "ytdjjncofahnaaaagreat", sum := "7532439bad755a5e01d985fbecfb587b6f15a2b58bbec9cbbb12939979f8b6b1", func := "loop.example/g00832/laws.FnExactRunRounds", spec := "fnExactRunRounds", unfollowed := true, recurses := true, apart := false, narrowed := true }
def FnExactRunRoundsUptoSaid : Prop := fnExactRunRoundsUptoRow.holds Tryz.pinned (OpenSpec.upto fnExactRunRoundsSpec)

/-- 'laws.FnExactKeptRegion', WHERE WHAT IT READS IS OF BULK AT MOST 1048576: true; the input reads as it did. -/
def fnExactKeptRegionUptoRow : OpenClaim := { program := "ytdjjncofahnaaaagreat", sum := "7532439bad755a5e01d985fbecfb587b6f15a2b58bbec9cbbb12939979f8b6b1", func := "loop.example/g00832/laws.FnExactKeptRegion", spec := "fnExactKeptRegion", unfollowed := true, recurses := true, apart := false, narrowed := true }
def FnExactKeptRegionUptoSaid : Prop := fnExactKeptRegionUptoRow.holds Tryz.pinned (OpenSpec.upto fnExactKeptRegionSpec)

/-- 'laws.FnExactRoundsOf', WHERE WHAT IT READS IS OF BULK AT MOST 1048576: true; the input reads as it did. -/
def fnExactRoundsOfUptoRow : OpenClaim := { program := "ytdjjncofahnaaaagreat", sum := "7532439bad755a5e01d985fbecfb587b6f15a2b58bbec9cbbb12939979f8b6b1", func := "loop.example/g00832/laws.FnExactRoundsOf", spec := "fnExactRoundsOf", unfollowed := true, recurses := true, apart := false, narrowed := true }
def FnExactRoundsOfUptoSaid : Prop := fnExactRoundsOfUptoRow.holds Tryz.pinned (OpenSpec.upto fnExactRoundsOfSpec)

/-- 'laws.FnExactLossOf', WHERE WHAT IT READS IS OF BULK AT MOST 1048576: true; the input reads as it did. -/
def fnExactLossOfUptoRow : OpenClaim := { program := "ytdjjncofahnaaaagreat", sum := "7532439bad755a5e01d985fbecfb587b6f15a2b58bbec9cbbb12939979f8b6b1", func := "loop.example/g00832/laws.FnExactLossOf", spec := "fnExactLossOf", unfollowed := true, recurses := true, apart := false, narrowed := true }
def FnExactLossOfUptoSaid : Prop := fnExactLossOfUptoRow.holds Tryz.pinned (OpenSpec.upto fnExactLossOfSpec)

/-- 'laws.FnExactCanBeKept', WHERE WHAT IT READS IS OF BULK AT MOST 1048576: true; the input reads as it did. -/
def fnExactCanBeKeptUptoRow : OpenClaim := { program := "ytdjjncofahnaaaagreat", sum := "7532439bad755a5e01d985fbecfb587b6f15a2b58bbec9cbbb12939979f8b6b1", func := "loop.example/g00832/laws.FnExactCanBeKept", spec := "fnExactCanBeKept", unfollowed := true, recurses := true, apart := false, narrowed := true }
def FnExactCanBeKeptUptoSaid : Prop := fnExactCanBeKeptUptoRow.holds Tryz.pinned (OpenSpec.upto fnExactCanBeKeptSpec)

end Rows
end Go.Proofs.YtdjjncofahnaaaaGreat
