/-
  No cell of these rows narrows 'for every input' (looked for: loops, veiled, ifaces, maps, wideKeys, modest, calm, conditions, laid).
  DERIVED. THE GIVEN ROWS OF THIS SEAT. 6 by the template 'for every input the law returns true; each argument reads behind the call as it read before'; 0 by the template 'total and deterministic' (their statements: YtckfmgldgjnepabTotals.lean).
  GIVEN WITH THE SEED: the statements are not yours to turn. If you find one false, say at which input.
  Laid BY PROGRAM, IN A SANDBOX (cutbox-rows.mjs): the forced cells as the released guide's own fill.sh prints them over the translation ff34cc7b15f0f6bf… (all of the seat's roots in one cut). By AI agents, Wed Nov 11 2026. No macro, syntax, notation, axiom, sorry.
-/
import Derived.Test.YtckfmgldgjnepabChecked
import GoSem.Claim
import GoSem.ClaimJoined
import GoSem.ClaimMapViews
import Derived.JoinedTies
import Derived.KernelRfl
namespace Go.Proofs.Ytckfmgldgjnepab
/- THE CELL 'sum', in the pinned program and in every row, IS THE sha256 OF THE DUMP (.gsa) THAT YtckfmgldgjnepabProg.lean LOADS. Nothing in Lean hashes anything: it is a label: what it is worth is what the hold of that sum in a sandbox is worth. -/
noncomputable def Try.pinned : Pinned := { name := "ytckfmgldgjnepab", sum := "ff34cc7b15f0f6bf014b90f1c0c1aee0f683fba2776353a0d208e1aa3fc51f27", checked := Try.checked }
namespace Rows
def none {H : Type} : Left H := { results := [], args := [] }

/-- 'laws.FnExactShiftRegion': WHATEVER THE INPUT: true; the input reads as it did. -/
def fnExactShiftRegionSpec : ChangeSpec := { name := "fnExactShiftRegion", fn := fun _ => fun
  | [d1, d2, d3] => { results := [.lit (.bool true)], args := [d1, d2, d3] }
  | _ => none }
def fnExactShiftRegionRow : OpenClaim := { program := "ytckfmgldgjnepab", sum := "ff34cc7b15f0f6bf014b90f1c0c1aee0f683fba2776353a0d208e1aa3fc51f27", func := "loop.example/g00832/laws.FnExactShiftRegion", spec := "fnExactShiftRegion", unfollowed := true, recurses := true, apart := false }
def FnExactShiftRegionSaid : Prop := fnExactShiftRegionRow.holds Try.pinned (OpenSpec.ofChange fnExactShiftRegionSpec)

/-- ITS FALSE NEIGHBOUR: 'it returns false'. Refute it at one input. -/
def fnExactShiftRegionWrong : ChangeSpec := { name := "fnExactShiftRegion", fn := fun _ => fun
  | [d1, d2, d3] => { results := [.lit (.bool false)], args := [d1, d2, d3] }
  | _ => none }
def FnExactShiftRegionWrongFalsely : Prop := fnExactShiftRegionRow.holds Try.pinned (OpenSpec.ofChange fnExactShiftRegionWrong)

/-- 'laws.FnExactErodeRegion': WHATEVER THE INPUT: true; the input reads as it did. -/
def fnExactErodeRegionSpec : ChangeSpec := { name := "fnExactErodeRegion", fn := fun _ => fun
  | [d1, d2] => { results := [.lit (.bool true)], args := [d1, d2] }
  | _ => none }
def fnExactErodeRegionRow : OpenClaim := { program := "ytckfmgldgjnepab", sum := "ff34cc7b15f0f6bf014b90f1c0c1aee0f683fba2776353a0d208e1aa3fc51f27", func := "loop.example/g00832/laws.FnExactErodeRegion", spec := "fnExactErodeRegion", unfollowed := true, recurses := true, apart := false }
def FnExactErodeRegionSaid : Prop := fnExactErodeRegionRow.holds Try.pinned (OpenSpec.ofChange fnExactErodeRegionSpec)

/-- ITS FALSE NEIGHBOUR: 'it returns false'. Refute it at one input. -/
def fnExactErodeRegionWrong : ChangeSpec := { name := "fnExactErodeRegion", fn := fun _ => fun
  | [d1, d2] => { results := [.lit (.bool false)], args := [d1, d2] }
  | _ => none }
def FnExactErodeRegionWrongFalsely : Prop := fnExactErodeRegionRow.holds Try.pinned (OpenSpec.ofChange fnExactErodeRegionWrong)

/-- 'laws.FnExactGrowAlong': WHATEVER THE INPUT: true; the input reads as it did. -/
def fnExactGrowAlongSpec : ChangeSpec := { name := "fnExactGrowAlong", fn := fun _ => fun
  | [d1, d2, d3, d4, d5] => { results := [.lit (.bool true)], args := [d1, d2, d3, d4, d5] }
  | _ => none }
def fnExactGrowAlongRow : OpenClaim := { program := "ytckfmgldgjnepab", sum := "ff34cc7b15f0f6bf014b90f1c0c1aee0f683fba2776353a0d208e1aa3fc51f27", func := "loop.example/g00832/laws.FnExactGrowAlong", spec := "fnExactGrowAlong", unfollowed := true, recurses := true, apart := false }
def FnExactGrowAlongSaid : Prop := fnExactGrowAlongRow.holds Try.pinned (OpenSpec.ofChange fnExactGrowAlongSpec)

/-- ITS FALSE NEIGHBOUR: 'it returns false'. Refute it at one input. -/
def fnExactGrowAlongWrong : ChangeSpec := { name := "fnExactGrowAlong", fn := fun _ => fun
  | [d1, d2, d3, d4, d5] => { results := [.lit (.bool false)], args := [d1, d2, d3, d4, d5] }
  | _ => none }
def FnExactGrowAlongWrongFalsely : Prop := fnExactGrowAlongRow.holds Try.pinned (OpenSpec.ofChange fnExactGrowAlongWrong)

/-- 'laws.FnExactPullBack': WHATEVER THE INPUT: true; the input reads as it did. -/
def fnExactPullBackSpec : ChangeSpec := { name := "fnExactPullBack", fn := fun _ => fun
  | [d1, d2, d3] => { results := [.lit (.bool true)], args := [d1, d2, d3] }
  | _ => none }
def fnExactPullBackRow : OpenClaim := { program := "ytckfmgldgjnepab", sum := "ff34cc7b15f0f6bf014b90f1c0c1aee0f683fba2776353a0d208e1aa3fc51f27", func := "loop.example/g00832/laws.FnExactPullBack", spec := "fnExactPullBack", unfollowed := true, recurses := true, apart := false }
def FnExactPullBackSaid : Prop := fnExactPullBackRow.holds Try.pinned (OpenSpec.ofChange fnExactPullBackSpec)

/-- ITS FALSE NEIGHBOUR: 'it returns false'. Refute it at one input. -/
def fnExactPullBackWrong : ChangeSpec := { name := "fnExactPullBack", fn := fun _ => fun
  | [d1, d2, d3] => { results := [.lit (.bool false)], args := [d1, d2, d3] }
  | _ => none }
def FnExactPullBackWrongFalsely : Prop := fnExactPullBackRow.holds Try.pinned (OpenSpec.ofChange fnExactPullBackWrong)

/-- 'laws.FnExactMapSpot': WHATEVER THE INPUT: true; the input reads as it did. -/
def fnExactMapSpotSpec : ChangeSpec := { name := "fnExactMapSpot", fn := fun _ => fun
  | [d1, d2, d3] => { results := [.lit (.bool true)], args := [d1, d2, d3] }
  | _ => none }
def fnExactMapSpotRow : OpenClaim := { program := "ytckfmgldgjnepab", sum := "ff34cc7b15f0f6bf014b90f1c0c1aee0f683fba2776353a0d208e1aa3fc51f27", func := "loop.example/g00832/laws.FnExactMapSpot", spec := "fnExactMapSpot", apart := false }
def FnExactMapSpotSaid : Prop := fnExactMapSpotRow.holds Try.pinned (OpenSpec.ofChange fnExactMapSpotSpec)

/-- ITS FALSE NEIGHBOUR: 'it returns false'. Refute it at one input. -/
def fnExactMapSpotWrong : ChangeSpec := { name := "fnExactMapSpot", fn := fun _ => fun
  | [d1, d2, d3] => { results := [.lit (.bool false)], args := [d1, d2, d3] }
  | _ => none }
def FnExactMapSpotWrongFalsely : Prop := fnExactMapSpotRow.holds Try.pinned (OpenSpec.ofChange fnExactMapSpotWrong)

/-- 'laws.FnExactMirrorRegion': WHATEVER THE INPUT: true; the input reads as it did. -/
def fnExactMirrorRegionSpec : ChangeSpec := { name := "fnExactMirrorRegion", fn := fun _ => fun
  | [d] => { results := [.lit (.bool true)], args := [d] }
  | _ => none }
def fnExactMirrorRegionRow : OpenClaim := { program := "ytckfmgldgjnepab", sum := "ff34cc7b15f0f6bf014b90f1c0c1aee0f683fba2776353a0d208e1aa3fc51f27", func := "loop.example/g00832/laws.FnExactMirrorRegion", spec := "fnExactMirrorRegion", unfollowed := true, recurses := true, apart := false }
def FnExactMirrorRegionSaid : Prop := fnExactMirrorRegionRow.holds Try.pinned (OpenSpec.ofChange fnExactMirrorRegionSpec)

/-- ITS FALSE NEIGHBOUR: 'it returns false'. Refute it at one input. -/
def fnExactMirrorRegionWrong : ChangeSpec := { name := "fnExactMirrorRegion", fn := fun _ => fun
  | [d] => { results := [.lit (.bool false)], args := [d] }
  | _ => none }
def FnExactMirrorRegionWrongFalsely : Prop := fnExactMirrorRegionRow.holds Try.pinned (OpenSpec.ofChange fnExactMirrorRegionWrong)

/- THE SECOND FORM. 'bulk': how many values and letters a reading holds, each counted each time it is reached (what is shared counts as often as it is met; a slice's spare places count too). A statement '..UptoSaid' is the law's where the arguments, and the package variables that the reading takes, are together of bulk at most 1048576: NARROWER than '..Said'. Prove '..Said' where nothing that the law and all that it calls make is longer than what came in: it says more and counts as full. Else prove '..UptoSaid'. A law counts once. -/
mutual
def uptoBulk {H : Type} : DataW H → Nat
  | .lit (.string bytes) => bytes.length + 1
  | .lit _ => 1
  | .nil => 1
  | .ptr d => uptoBulk d + 1
  | .slice elems spare => uptoBulkAll elems + uptoBulkAll spare + 1
  | .agg parts => uptoBulkAll parts + 1
  | .iface _ d => uptoBulk d + 1
  | .map entries => uptoBulkEntries entries + 1
  | .held _ => 1
def uptoBulkAll {H : Type} : List (DataW H) → Nat
  | [] => 0
  | d :: r => uptoBulk d + uptoBulkAll r
def uptoBulkEntries {H : Type} : List (Lit × DataW H) → Nat
  | [] => 0
  | x :: r => uptoBulkEntry x + uptoBulkEntries r
def uptoBulkEntry {H : Type} : Lit × DataW H → Nat
  | (.string bytes, d) => bytes.length + uptoBulk d + 1
  | (_, d) => uptoBulk d + 1
 end
def uptoSmall : (H : Type) → List (DataW H) → Bool := fun _ ds => decide (uptoBulkAll ds ≤ 1048576)
def OpenSpec.upto (s : _root_.Go.ChangeSpec) : _root_.Go.OpenSpec := { _root_.Go.OpenSpec.ofChange s with cond := some uptoSmall }

/-- 'laws.FnExactShiftRegion', WHERE WHAT IT READS IS OF BULK AT MOST 1048576: true; the input reads as it did. -/
def fnExactShiftRegionUptoRow : OpenClaim := { program := "ytckfmgldgjnepab", sum := "ff34cc7b15f0f6bf014b90f1c0c1aee0f683fba2776353a0d208e1aa3fc51f27", func := "loop.example/g00832/laws.FnExactShiftRegion", spec := "fnExactShiftRegion", unfollowed := true, recurses := true, apart := false, narrowed := true }
def FnExactShiftRegionUptoSaid : Prop := fnExactShiftRegionUptoRow.holds Try.pinned (OpenSpec.upto fnExactShiftRegionSpec)

/-- 'laws.FnExactErodeRegion', WHERE WHAT IT READS IS OF BULK AT MOST 1048576: true; the input reads as it did. -/
def fnExactErodeRegionUptoRow : OpenClaim := { program := "ytckfmgldgjnepab", sum := "ff34cc7b15f0f6bf014b90f1c0c1aee0f683fba2776353a0d208e1aa3fc51f27", func := "loop.example/g00832/laws.FnExactErodeRegion", spec := "fnExactErodeRegion", unfollowed := true, recurses := true, apart := false, narrowed := true }
def FnExactErodeRegionUptoSaid : Prop := fnExactErodeRegionUptoRow.holds Try.pinned (OpenSpec.upto fnExactErodeRegionSpec)

/-- 'laws.FnExactGrowAlong', WHERE WHAT IT READS IS OF BULK AT MOST 1048576: true; the input reads as it did. -/
def fnExactGrowAlongUptoRow : OpenClaim := { program := "ytckfmgldgjnepab", sum := "ff34cc7b15f0f6bf014b90f1c0c1aee0f683fba2776353a0d208e1aa3fc51f27", func := "loop.example/g00832/laws.FnExactGrowAlong", spec := "fnExactGrowAlong", unfollowed := true, recurses := true, apart := false, narrowed := true }
def FnExactGrowAlongUptoSaid : Prop := fnExactGrowAlongUptoRow.holds Try.pinned (OpenSpec.upto fnExactGrowAlongSpec)

/-- 'laws.FnExactPullBack', WHERE WHAT IT READS IS OF BULK AT MOST 1048576: true; the input reads as it did. -/
def fnExactPullBackUptoRow : OpenClaim := { program := "ytckfmgldgjnepab", sum := "ff34cc7b15f0f6bf014b90f1c0c1aee0f683fba2776353a0d208e1aa3fc51f27", func := "loop.example/g00832/laws.FnExactPullBack", spec := "fnExactPullBack", unfollowed := true, recurses := true, apart := false, narrowed := true }
def FnExactPullBackUptoSaid : Prop := fnExactPullBackUptoRow.holds Try.pinned (OpenSpec.upto fnExactPullBackSpec)

/-- 'laws.FnExactMapSpot', WHERE WHAT IT READS IS OF BULK AT MOST 1048576: true; the input reads as it did. -/
def fnExactMapSpotUptoRow : OpenClaim := { program := "ytckfmgldgjnepab", sum := "ff34cc7b15f0f6bf014b90f1c0c1aee0f683fba2776353a0d208e1aa3fc51f27", func := "loop.example/g00832/laws.FnExactMapSpot", spec := "fnExactMapSpot", apart := false, narrowed := true }
def FnExactMapSpotUptoSaid : Prop := fnExactMapSpotUptoRow.holds Try.pinned (OpenSpec.upto fnExactMapSpotSpec)

/-- 'laws.FnExactMirrorRegion', WHERE WHAT IT READS IS OF BULK AT MOST 1048576: true; the input reads as it did. -/
def fnExactMirrorRegionUptoRow : OpenClaim := { program := "ytckfmgldgjnepab", sum := "ff34cc7b15f0f6bf014b90f1c0c1aee0f683fba2776353a0d208e1aa3fc51f27", func := "loop.example/g00832/laws.FnExactMirrorRegion", spec := "fnExactMirrorRegion", unfollowed := true, recurses := true, apart := false, narrowed := true }
def FnExactMirrorRegionUptoSaid : Prop := fnExactMirrorRegionUptoRow.holds Try.pinned (OpenSpec.upto fnExactMirrorRegionSpec)

end Rows
end Go.Proofs.Ytckfmgldgjnepab
