/-
  No cell of these rows narrows 'for every input' (looked for: loops, veiled, ifaces, maps, wideKeys, modest, calm, conditions, laid).
  DERIVED. THE GIVEN ROWS OF THIS SEAT. 20 by the template 'for every input the law returns true; each argument reads behind the call as it read before'; 0 by the template 'total and deterministic' (their statements: YtfmjoampcmjiaaaTotals.lean).
  GIVEN WITH THE SEED: the statements are not yours to turn. If you find one false, say at which input.
  Laid BY PROGRAM, IN A SANDBOX (cutbox-rows.mjs): the forced cells as the released guide's own fill.sh prints them over the translation f0b5f92154ece51b… (all of the seat's roots in one cut). By AI agents, Wed Nov 11 2026. No macro, syntax, notation, axiom, sorry.
-/
import Derived.Test.YtfmjoampcmjiaaaChecked
import GoSem.Claim
import GoSem.ClaimJoined
import GoSem.ClaimMapViews
import Derived.JoinedTies
import Derived.KernelRfl
namespace Go.Proofs.Ytfmjoampcmjiaaa
/- THE CELL 'sum', in the pinned program and in every row, IS THE sha256 OF THE DUMP (.gsa) THAT YtfmjoampcmjiaaaProg.lean LOADS. Nothing in Lean hashes anything: it is a label: what it is worth is what the hold of that sum in a sandbox is worth. -/
noncomputable def Try.pinned : Pinned := { name := "ytfmjoampcmjiaaa", sum := "f0b5f92154ece51b55734c43a53260d5448353cfe110c7936de0443fd4e620da", checked := Try.checked }
namespace Rows
def none {H : Type} : Left H := { results := [], args := [] }

/-- 'laws.FnRegions': WHATEVER THE INPUT: true; the input reads as it did. -/
def fnRegionsSpec : ChangeSpec := { name := "fnRegions", fn := fun _ => fun
  | [d] => { results := [.lit (.bool true)], args := [d] }
  | _ => none }
def fnRegionsRow : OpenClaim := { program := "ytfmjoampcmjiaaa", sum := "f0b5f92154ece51b55734c43a53260d5448353cfe110c7936de0443fd4e620da", func := "loop.example/g00832/laws.FnRegions", spec := "fnRegions", unfollowed := true, recurses := true, apart := false }
def FnRegionsSaid : Prop := fnRegionsRow.holds Try.pinned (OpenSpec.ofChange fnRegionsSpec)

/-- ITS FALSE NEIGHBOUR: 'it returns false'. Refute it at one input. -/
def fnRegionsWrong : ChangeSpec := { name := "fnRegions", fn := fun _ => fun
  | [d] => { results := [.lit (.bool false)], args := [d] }
  | _ => none }
def FnRegionsWrongFalsely : Prop := fnRegionsRow.holds Try.pinned (OpenSpec.ofChange fnRegionsWrong)

/-- 'laws.FnCorners': WHATEVER THE INPUT: true; the input reads as it did. -/
def fnCornersSpec : ChangeSpec := { name := "fnCorners", fn := fun _ => fun
  | [d] => { results := [.lit (.bool true)], args := [d] }
  | _ => none }
def fnCornersRow : OpenClaim := { program := "ytfmjoampcmjiaaa", sum := "f0b5f92154ece51b55734c43a53260d5448353cfe110c7936de0443fd4e620da", func := "loop.example/g00832/laws.FnCorners", spec := "fnCorners", unfollowed := true, recurses := true, apart := false }
def FnCornersSaid : Prop := fnCornersRow.holds Try.pinned (OpenSpec.ofChange fnCornersSpec)

/-- ITS FALSE NEIGHBOUR: 'it returns false'. Refute it at one input. -/
def fnCornersWrong : ChangeSpec := { name := "fnCorners", fn := fun _ => fun
  | [d] => { results := [.lit (.bool false)], args := [d] }
  | _ => none }
def FnCornersWrongFalsely : Prop := fnCornersRow.holds Try.pinned (OpenSpec.ofChange fnCornersWrong)

/-- 'laws.FnMeets': WHATEVER THE INPUT: true; the input reads as it did. -/
def fnMeetsSpec : ChangeSpec := { name := "fnMeets", fn := fun _ => fun
  | [d] => { results := [.lit (.bool true)], args := [d] }
  | _ => none }
def fnMeetsRow : OpenClaim := { program := "ytfmjoampcmjiaaa", sum := "f0b5f92154ece51b55734c43a53260d5448353cfe110c7936de0443fd4e620da", func := "loop.example/g00832/laws.FnMeets", spec := "fnMeets", unfollowed := true, recurses := true, apart := false }
def FnMeetsSaid : Prop := fnMeetsRow.holds Try.pinned (OpenSpec.ofChange fnMeetsSpec)

/-- ITS FALSE NEIGHBOUR: 'it returns false'. Refute it at one input. -/
def fnMeetsWrong : ChangeSpec := { name := "fnMeets", fn := fun _ => fun
  | [d] => { results := [.lit (.bool false)], args := [d] }
  | _ => none }
def FnMeetsWrongFalsely : Prop := fnMeetsRow.holds Try.pinned (OpenSpec.ofChange fnMeetsWrong)

/-- 'laws.FnSupports': WHATEVER THE INPUT: true; the input reads as it did. -/
def fnSupportsSpec : ChangeSpec := { name := "fnSupports", fn := fun _ => fun
  | [d] => { results := [.lit (.bool true)], args := [d] }
  | _ => none }
def fnSupportsRow : OpenClaim := { program := "ytfmjoampcmjiaaa", sum := "f0b5f92154ece51b55734c43a53260d5448353cfe110c7936de0443fd4e620da", func := "loop.example/g00832/laws.FnSupports", spec := "fnSupports", unfollowed := true, recurses := true, apart := false }
def FnSupportsSaid : Prop := fnSupportsRow.holds Try.pinned (OpenSpec.ofChange fnSupportsSpec)

/-- ITS FALSE NEIGHBOUR: 'it returns false'. Refute it at one input. -/
def fnSupportsWrong : ChangeSpec := { name := "fnSupports", fn := fun _ => fun
  | [d] => { results := [.lit (.bool false)], args := [d] }
  | _ => none }
def FnSupportsWrongFalsely : Prop := fnSupportsRow.holds Try.pinned (OpenSpec.ofChange fnSupportsWrong)

/-- 'laws.FnEroded': WHATEVER THE INPUT: true; the input reads as it did. -/
def fnErodedSpec : ChangeSpec := { name := "fnEroded", fn := fun _ => fun
  | [d] => { results := [.lit (.bool true)], args := [d] }
  | _ => none }
def fnErodedRow : OpenClaim := { program := "ytfmjoampcmjiaaa", sum := "f0b5f92154ece51b55734c43a53260d5448353cfe110c7936de0443fd4e620da", func := "loop.example/g00832/laws.FnEroded", spec := "fnEroded", unfollowed := true, recurses := true, apart := false }
def FnErodedSaid : Prop := fnErodedRow.holds Try.pinned (OpenSpec.ofChange fnErodedSpec)

/-- ITS FALSE NEIGHBOUR: 'it returns false'. Refute it at one input. -/
def fnErodedWrong : ChangeSpec := { name := "fnEroded", fn := fun _ => fun
  | [d] => { results := [.lit (.bool false)], args := [d] }
  | _ => none }
def FnErodedWrongFalsely : Prop := fnErodedRow.holds Try.pinned (OpenSpec.ofChange fnErodedWrong)

/-- 'laws.FnGrown': WHATEVER THE INPUT: true; the input reads as it did. -/
def fnGrownSpec : ChangeSpec := { name := "fnGrown", fn := fun _ => fun
  | [d] => { results := [.lit (.bool true)], args := [d] }
  | _ => none }
def fnGrownRow : OpenClaim := { program := "ytfmjoampcmjiaaa", sum := "f0b5f92154ece51b55734c43a53260d5448353cfe110c7936de0443fd4e620da", func := "loop.example/g00832/laws.FnGrown", spec := "fnGrown", unfollowed := true, recurses := true, apart := false }
def FnGrownSaid : Prop := fnGrownRow.holds Try.pinned (OpenSpec.ofChange fnGrownSpec)

/-- ITS FALSE NEIGHBOUR: 'it returns false'. Refute it at one input. -/
def fnGrownWrong : ChangeSpec := { name := "fnGrown", fn := fun _ => fun
  | [d] => { results := [.lit (.bool false)], args := [d] }
  | _ => none }
def FnGrownWrongFalsely : Prop := fnGrownRow.holds Try.pinned (OpenSpec.ofChange fnGrownWrong)

/-- 'laws.FnPulled': WHATEVER THE INPUT: true; the input reads as it did. -/
def fnPulledSpec : ChangeSpec := { name := "fnPulled", fn := fun _ => fun
  | [d] => { results := [.lit (.bool true)], args := [d] }
  | _ => none }
def fnPulledRow : OpenClaim := { program := "ytfmjoampcmjiaaa", sum := "f0b5f92154ece51b55734c43a53260d5448353cfe110c7936de0443fd4e620da", func := "loop.example/g00832/laws.FnPulled", spec := "fnPulled", unfollowed := true, recurses := true, apart := false }
def FnPulledSaid : Prop := fnPulledRow.holds Try.pinned (OpenSpec.ofChange fnPulledSpec)

/-- ITS FALSE NEIGHBOUR: 'it returns false'. Refute it at one input. -/
def fnPulledWrong : ChangeSpec := { name := "fnPulled", fn := fun _ => fun
  | [d] => { results := [.lit (.bool false)], args := [d] }
  | _ => none }
def FnPulledWrongFalsely : Prop := fnPulledRow.holds Try.pinned (OpenSpec.ofChange fnPulledWrong)

/-- 'laws.FnMirrored': WHATEVER THE INPUT: true; the input reads as it did. -/
def fnMirroredSpec : ChangeSpec := { name := "fnMirrored", fn := fun _ => fun
  | [d] => { results := [.lit (.bool true)], args := [d] }
  | _ => none }
def fnMirroredRow : OpenClaim := { program := "ytfmjoampcmjiaaa", sum := "f0b5f92154ece51b55734c43a53260d5448353cfe110c7936de0443fd4e620da", func := "loop.example/g00832/laws.FnMirrored", spec := "fnMirrored", unfollowed := true, recurses := true, apart := false }
def FnMirroredSaid : Prop := fnMirroredRow.holds Try.pinned (OpenSpec.ofChange fnMirroredSpec)

/-- ITS FALSE NEIGHBOUR: 'it returns false'. Refute it at one input. -/
def fnMirroredWrong : ChangeSpec := { name := "fnMirrored", fn := fun _ => fun
  | [d] => { results := [.lit (.bool false)], args := [d] }
  | _ => none }
def FnMirroredWrongFalsely : Prop := fnMirroredRow.holds Try.pinned (OpenSpec.ofChange fnMirroredWrong)

/-- 'laws.FnExactCutRegion': WHATEVER THE INPUT: true; the input reads as it did. -/
def fnExactCutRegionSpec : ChangeSpec := { name := "fnExactCutRegion", fn := fun _ => fun
  | [d1, d2] => { results := [.lit (.bool true)], args := [d1, d2] }
  | _ => none }
def fnExactCutRegionRow : OpenClaim := { program := "ytfmjoampcmjiaaa", sum := "f0b5f92154ece51b55734c43a53260d5448353cfe110c7936de0443fd4e620da", func := "loop.example/g00832/laws.FnExactCutRegion", spec := "fnExactCutRegion", unfollowed := true, recurses := true, apart := false }
def FnExactCutRegionSaid : Prop := fnExactCutRegionRow.holds Try.pinned (OpenSpec.ofChange fnExactCutRegionSpec)

/-- ITS FALSE NEIGHBOUR: 'it returns false'. Refute it at one input. -/
def fnExactCutRegionWrong : ChangeSpec := { name := "fnExactCutRegion", fn := fun _ => fun
  | [d1, d2] => { results := [.lit (.bool false)], args := [d1, d2] }
  | _ => none }
def FnExactCutRegionWrongFalsely : Prop := fnExactCutRegionRow.holds Try.pinned (OpenSpec.ofChange fnExactCutRegionWrong)

/-- 'laws.FnExactIsWithin': WHATEVER THE INPUT: true; the input reads as it did. -/
def fnExactIsWithinSpec : ChangeSpec := { name := "fnExactIsWithin", fn := fun _ => fun
  | [d1, d2] => { results := [.lit (.bool true)], args := [d1, d2] }
  | _ => none }
def fnExactIsWithinRow : OpenClaim := { program := "ytfmjoampcmjiaaa", sum := "f0b5f92154ece51b55734c43a53260d5448353cfe110c7936de0443fd4e620da", func := "loop.example/g00832/laws.FnExactIsWithin", spec := "fnExactIsWithin", unfollowed := true, recurses := true, apart := false }
def FnExactIsWithinSaid : Prop := fnExactIsWithinRow.holds Try.pinned (OpenSpec.ofChange fnExactIsWithinSpec)

/-- ITS FALSE NEIGHBOUR: 'it returns false'. Refute it at one input. -/
def fnExactIsWithinWrong : ChangeSpec := { name := "fnExactIsWithin", fn := fun _ => fun
  | [d1, d2] => { results := [.lit (.bool false)], args := [d1, d2] }
  | _ => none }
def FnExactIsWithinWrongFalsely : Prop := fnExactIsWithinRow.holds Try.pinned (OpenSpec.ofChange fnExactIsWithinWrong)

/-- 'laws.FnExactSupportOf': WHATEVER THE INPUT: true; the input reads as it did. -/
def fnExactSupportOfSpec : ChangeSpec := { name := "fnExactSupportOf", fn := fun _ => fun
  | [d1, d2, d3] => { results := [.lit (.bool true)], args := [d1, d2, d3] }
  | _ => none }
def fnExactSupportOfRow : OpenClaim := { program := "ytfmjoampcmjiaaa", sum := "f0b5f92154ece51b55734c43a53260d5448353cfe110c7936de0443fd4e620da", func := "loop.example/g00832/laws.FnExactSupportOf", spec := "fnExactSupportOf", unfollowed := true, recurses := true, apart := false }
def FnExactSupportOfSaid : Prop := fnExactSupportOfRow.holds Try.pinned (OpenSpec.ofChange fnExactSupportOfSpec)

/-- ITS FALSE NEIGHBOUR: 'it returns false'. Refute it at one input. -/
def fnExactSupportOfWrong : ChangeSpec := { name := "fnExactSupportOf", fn := fun _ => fun
  | [d1, d2, d3] => { results := [.lit (.bool false)], args := [d1, d2, d3] }
  | _ => none }
def FnExactSupportOfWrongFalsely : Prop := fnExactSupportOfRow.holds Try.pinned (OpenSpec.ofChange fnExactSupportOfWrong)

/-- 'laws.FnExactWidthOf': WHATEVER THE INPUT: true; the input reads as it did. -/
def fnExactWidthOfSpec : ChangeSpec := { name := "fnExactWidthOf", fn := fun _ => fun
  | [d1, d2, d3] => { results := [.lit (.bool true)], args := [d1, d2, d3] }
  | _ => none }
def fnExactWidthOfRow : OpenClaim := { program := "ytfmjoampcmjiaaa", sum := "f0b5f92154ece51b55734c43a53260d5448353cfe110c7936de0443fd4e620da", func := "loop.example/g00832/laws.FnExactWidthOf", spec := "fnExactWidthOf", unfollowed := true, recurses := true, apart := false }
def FnExactWidthOfSaid : Prop := fnExactWidthOfRow.holds Try.pinned (OpenSpec.ofChange fnExactWidthOfSpec)

/-- ITS FALSE NEIGHBOUR: 'it returns false'. Refute it at one input. -/
def fnExactWidthOfWrong : ChangeSpec := { name := "fnExactWidthOf", fn := fun _ => fun
  | [d1, d2, d3] => { results := [.lit (.bool false)], args := [d1, d2, d3] }
  | _ => none }
def FnExactWidthOfWrongFalsely : Prop := fnExactWidthOfRow.holds Try.pinned (OpenSpec.ofChange fnExactWidthOfWrong)

/-- 'laws.FnExactFarthestCorner': WHATEVER THE INPUT: true; the input reads as it did. -/
def fnExactFarthestCornerSpec : ChangeSpec := { name := "fnExactFarthestCorner", fn := fun _ => fun
  | [d1, d2, d3] => { results := [.lit (.bool true)], args := [d1, d2, d3] }
  | _ => none }
def fnExactFarthestCornerRow : OpenClaim := { program := "ytfmjoampcmjiaaa", sum := "f0b5f92154ece51b55734c43a53260d5448353cfe110c7936de0443fd4e620da", func := "loop.example/g00832/laws.FnExactFarthestCorner", spec := "fnExactFarthestCorner", unfollowed := true, recurses := true, apart := false }
def FnExactFarthestCornerSaid : Prop := fnExactFarthestCornerRow.holds Try.pinned (OpenSpec.ofChange fnExactFarthestCornerSpec)

/-- ITS FALSE NEIGHBOUR: 'it returns false'. Refute it at one input. -/
def fnExactFarthestCornerWrong : ChangeSpec := { name := "fnExactFarthestCorner", fn := fun _ => fun
  | [d1, d2, d3] => { results := [.lit (.bool false)], args := [d1, d2, d3] }
  | _ => none }
def FnExactFarthestCornerWrongFalsely : Prop := fnExactFarthestCornerRow.holds Try.pinned (OpenSpec.ofChange fnExactFarthestCornerWrong)

/-- 'laws.FnExactIsCorner': WHATEVER THE INPUT: true; the input reads as it did. -/
def fnExactIsCornerSpec : ChangeSpec := { name := "fnExactIsCorner", fn := fun _ => fun
  | [d1, d2] => { results := [.lit (.bool true)], args := [d1, d2] }
  | _ => none }
def fnExactIsCornerRow : OpenClaim := { program := "ytfmjoampcmjiaaa", sum := "f0b5f92154ece51b55734c43a53260d5448353cfe110c7936de0443fd4e620da", func := "loop.example/g00832/laws.FnExactIsCorner", spec := "fnExactIsCorner", unfollowed := true, recurses := true, apart := false }
def FnExactIsCornerSaid : Prop := fnExactIsCornerRow.holds Try.pinned (OpenSpec.ofChange fnExactIsCornerSpec)

/-- ITS FALSE NEIGHBOUR: 'it returns false'. Refute it at one input. -/
def fnExactIsCornerWrong : ChangeSpec := { name := "fnExactIsCorner", fn := fun _ => fun
  | [d1, d2] => { results := [.lit (.bool false)], args := [d1, d2] }
  | _ => none }
def FnExactIsCornerWrongFalsely : Prop := fnExactIsCornerRow.holds Try.pinned (OpenSpec.ofChange fnExactIsCornerWrong)

/-- 'laws.FnExactShiftRegion': WHATEVER THE INPUT: true; the input reads as it did. -/
def fnExactShiftRegionSpec : ChangeSpec := { name := "fnExactShiftRegion", fn := fun _ => fun
  | [d1, d2, d3] => { results := [.lit (.bool true)], args := [d1, d2, d3] }
  | _ => none }
def fnExactShiftRegionRow : OpenClaim := { program := "ytfmjoampcmjiaaa", sum := "f0b5f92154ece51b55734c43a53260d5448353cfe110c7936de0443fd4e620da", func := "loop.example/g00832/laws.FnExactShiftRegion", spec := "fnExactShiftRegion", unfollowed := true, recurses := true, apart := false }
def FnExactShiftRegionSaid : Prop := fnExactShiftRegionRow.holds Try.pinned (OpenSpec.ofChange fnExactShiftRegionSpec)

/-- ITS FALSE NEIGHBOUR: 'it returns false'. Refute it at one input. -/
def fnExactShiftRegionWrong : ChangeSpec := { name := "fnExactShiftRegion", fn := fun _ => fun
  | [d1, d2, d3] => { results := [.lit (.bool false)], args := [d1, d2, d3] }
  | _ => none }
def FnExactShiftRegionWrongFalsely : Prop := fnExactShiftRegionRow.holds Try.pinned (OpenSpec.ofChange fnExactShiftRegionWrong)

/-- 'laws.FnExactErodeRegion': WHATEVER THE INPUT: true; the input reads as it did. -/
def fnExactErodeRegionSpec : ChangeSpec := { name := "fnExactErodeRegion", fn := fun _ => fun
  | [d1, d2] => { results := [.lit (.bool true)], args := [d1, d2] }
  | _ => none }
def fnExactErodeRegionRow : OpenClaim := { program := "ytfmjoampcmjiaaa", sum := "f0b5f92154ece51b55734c43a53260d5448353cfe110c7936de0443fd4e620da", func := "loop.example/g00832/laws.FnExactErodeRegion", spec := "fnExactErodeRegion", unfollowed := true, recurses := true, apart := false }
def FnExactErodeRegionSaid : Prop := fnExactErodeRegionRow.holds Try.pinned (OpenSpec.ofChange fnExactErodeRegionSpec)

/-- ITS FALSE NEIGHBOUR: 'it returns false'. Refute it at one input. -/
def fnExactErodeRegionWrong : ChangeSpec := { name := "fnExactErodeRegion", fn := fun _ => fun
  | [d1, d2] => { results := [.lit (.bool false)], args := [d1, d2] }
  | _ => none }
def FnExactErodeRegionWrongFalsely : Prop := fnExactErodeRegionRow.holds Try.pinned (OpenSpec.ofChange fnExactErodeRegionWrong)

/-- 'laws.FnExactGrowAlong': WHATEVER THE INPUT: true; the input reads as it did. -/
def fnExactGrowAlongSpec : ChangeSpec := { name := "fnExactGrowAlong", fn := fun _ => fun
  | [d1, d2, d3, d4, d5] => { results := [.lit (.bool true)], args := [d1, d2, d3, d4, d5] }
  | _ => none }
def fnExactGrowAlongRow : OpenClaim := { program := "ytfmjoampcmjiaaa", sum := "f0b5f92154ece51b55734c43a53260d5448353cfe110c7936de0443fd4e620da", func := "loop.example/g00832/laws.FnExactGrowAlong", spec := "fnExactGrowAlong", unfollowed := true, recurses := true, apart := false }
def FnExactGrowAlongSaid : Prop := fnExactGrowAlongRow.holds Try.pinned (OpenSpec.ofChange fnExactGrowAlongSpec)

/-- ITS FALSE NEIGHBOUR: 'it returns false'. Refute it at one input. -/
def fnExactGrowAlongWrong : ChangeSpec := { name := "fnExactGrowAlong", fn := fun _ => fun
  | [d1, d2, d3, d4, d5] => { results := [.lit (.bool false)], args := [d1, d2, d3, d4, d5] }
  | _ => none }
def FnExactGrowAlongWrongFalsely : Prop := fnExactGrowAlongRow.holds Try.pinned (OpenSpec.ofChange fnExactGrowAlongWrong)

/-- 'laws.FnExactPullBack': WHATEVER THE INPUT: true; the input reads as it did. -/
def fnExactPullBackSpec : ChangeSpec := { name := "fnExactPullBack", fn := fun _ => fun
  | [d1, d2, d3] => { results := [.lit (.bool true)], args := [d1, d2, d3] }
  | _ => none }
def fnExactPullBackRow : OpenClaim := { program := "ytfmjoampcmjiaaa", sum := "f0b5f92154ece51b55734c43a53260d5448353cfe110c7936de0443fd4e620da", func := "loop.example/g00832/laws.FnExactPullBack", spec := "fnExactPullBack", unfollowed := true, recurses := true, apart := false }
def FnExactPullBackSaid : Prop := fnExactPullBackRow.holds Try.pinned (OpenSpec.ofChange fnExactPullBackSpec)

/-- ITS FALSE NEIGHBOUR: 'it returns false'. Refute it at one input. -/
def fnExactPullBackWrong : ChangeSpec := { name := "fnExactPullBack", fn := fun _ => fun
  | [d1, d2, d3] => { results := [.lit (.bool false)], args := [d1, d2, d3] }
  | _ => none }
def FnExactPullBackWrongFalsely : Prop := fnExactPullBackRow.holds Try.pinned (OpenSpec.ofChange fnExactPullBackWrong)

/-- 'laws.FnExactMapSpot': WHATEVER THE INPUT: true; the input reads as it did. -/
def fnExactMapSpotSpec : ChangeSpec := { name := "fnExactMapSpot", fn := fun _ => fun
  | [d1, d2, d3] => { results := [.lit (.bool true)], args := [d1, d2, d3] }
  | _ => none }
def fnExactMapSpotRow : OpenClaim := { program := "ytfmjoampcmjiaaa", sum := "f0b5f92154ece51b55734c43a53260d5448353cfe110c7936de0443fd4e620da", func := "loop.example/g00832/laws.FnExactMapSpot", spec := "fnExactMapSpot", apart := false }
def FnExactMapSpotSaid : Prop := fnExactMapSpotRow.holds Try.pinned (OpenSpec.ofChange fnExactMapSpotSpec)

/-- ITS FALSE NEIGHBOUR: 'it returns false'. Refute it at one input. -/
def fnExactMapSpotWrong : ChangeSpec := { name := "fnExactMapSpot", fn := fun _ => fun
  | [d1, d2, d3] => { results := [.lit (.bool false)], args := [d1, d2, d3] }
  | _ => none }
def FnExactMapSpotWrongFalsely : Prop := fnExactMapSpotRow.holds Try.pinned (OpenSpec.ofChange fnExactMapSpotWrong)

/-- 'laws.FnExactMirrorRegion': WHATEVER THE INPUT: true; the input reads as it did. -/
def fnExactMirrorRegionSpec : ChangeSpec := { name := "fnExactMirrorRegion", fn := fun _ => fun
  | [d] => { results := [.lit (.bool true)], args := [d] }
  | _ => none }
def fnExactMirrorRegionRow : OpenClaim := { program := "ytfmjoampcmjiaaa", sum := "f0b5f92154ece51b55734c43a53260d5448353cfe110c7936de0443fd4e620da", func := "loop.example/g00832/laws.FnExactMirrorRegion", spec := "fnExactMirrorRegion", unfollowed := true, recurses := true, apart := false }
def FnExactMirrorRegionSaid : Prop := fnExactMirrorRegionRow.holds Try.pinned (OpenSpec.ofChange fnExactMirrorRegionSpec)

/-- ITS FALSE NEIGHBOUR: 'it returns false'. Refute it at one input. -/
def fnExactMirrorRegionWrong : ChangeSpec := { name := "fnExactMirrorRegion", fn := fun _ => fun
  | [d] => { results := [.lit (.bool false)], args := [d] }
  | _ => none }
def FnExactMirrorRegionWrongFalsely : Prop := fnExactMirrorRegionRow.holds Try.pinned (OpenSpec.ofChange fnExactMirrorRegionWrong)

/- THE SECOND FORM. 'bulk': how many values and letters a reading holds, each counted each time it is reached (what is shared counts as often as it is met; a slice's spare places count too). A statement '..UptoSaid' is the law's where the arguments, and the package variables that the reading takes, are together of bulk at most 1048576: NARROWER than '..Said'. Prove '..Said' where nothing that the law and all that it calls make is longer than what came in: it says more and counts as full. Else prove '..UptoSaid'. A law counts once. -/
mutual
def uptoBulk {H : Type} : DataW H → Nat
  | .lit (.string bytes) => bytes.length + 1
  | .lit _ => 1
  | .nil => 1
  | .ptr d => uptoBulk d + 1
  | .slice elems spare => uptoBulkAll elems + uptoBulkAll spare + 1
  | .agg parts => uptoBulkAll parts + 1
  | .iface _ d => uptoBulk d + 1
  | .map entries => uptoBulkEntries entries + 1
  | .held _ => 1
def uptoBulkAll {H : Type} : List (DataW H) → Nat
  | [] => 0
  | d :: r => uptoBulk d + uptoBulkAll r
def uptoBulkEntries {H : Type} : List (Lit × DataW H) → Nat
  | [] => 0
  | x :: r => uptoBulkEntry x + uptoBulkEntries r
def uptoBulkEntry {H : Type} : Lit × DataW H → Nat
  | (.string bytes, d) => bytes.length + uptoBulk d + 1
  | (_, d) => uptoBulk d + 1
 end
def uptoSmall : (H : Type) → List (DataW H) → Bool := fun _ ds => decide (uptoBulkAll ds ≤ 1048576)
def OpenSpec.upto (s : _root_.Go.ChangeSpec) : _root_.Go.OpenSpec := { _root_.Go.OpenSpec.ofChange s with cond := some uptoSmall }

/-- 'laws.FnRegions', WHERE WHAT IT READS IS OF BULK AT MOST 1048576: true; the input reads as it did. -/
def fnRegionsUptoRow : OpenClaim := { program := "ytfmjoampcmjiaaa", sum := "f0b5f92154ece51b55734c43a53260d5448353cfe110c7936de0443fd4e620da", func := "loop.example/g00832/laws.FnRegions", spec := "fnRegions", unfollowed := true, recurses := true, apart := false, narrowed := true }
def FnRegionsUptoSaid : Prop := fnRegionsUptoRow.holds Try.pinned (OpenSpec.upto fnRegionsSpec)

/-- 'laws.FnCorners', WHERE WHAT IT READS IS OF BULK AT MOST 1048576: true; the input reads as it did. -/
def fnCornersUptoRow : OpenClaim := { program := "ytfmjoampcmjiaaa", sum := "f0b5f92154ece51b55734c43a53260d5448353cfe110c7936de0443fd4e620da", func := "loop.example/g00832/laws.FnCorners", spec := "fnCorners", unfollowed := true, recurses := true, apart := false, narrowed := true }
def FnCornersUptoSaid : Prop := fnCornersUptoRow.holds Try.pinned (OpenSpec.upto fnCornersSpec)

/-- 'laws.FnMeets', WHERE WHAT IT READS IS OF BULK AT MOST 1048576: true; the input reads as it did. -/
def fnMeetsUptoRow : OpenClaim := { program := "ytfmjoampcmjiaaa", sum := "f0b5f92154ece51b55734c43a53260d5448353cfe110c7936de0443fd4e620da", func := "loop.example/g00832/laws.FnMeets", spec := "fnMeets", unfollowed := true, recurses := true, apart := false, narrowed := true }
def FnMeetsUptoSaid : Prop := fnMeetsUptoRow.holds Try.pinned (OpenSpec.upto fnMeetsSpec)

/-- 'laws.FnSupports', WHERE WHAT IT READS IS OF BULK AT MOST 1048576: true; the input reads as it did. -/
def fnSupportsUptoRow : OpenClaim := { program := "ytfmjoampcmjiaaa", sum := "f0b5f92154ece51b55734c43a53260d5448353cfe110c7936de0443fd4e620da", func := "loop.example/g00832/laws.FnSupports", spec := "fnSupports", unfollowed := true, recurses := true, apart := false, narrowed := true }
def FnSupportsUptoSaid : Prop := fnSupportsUptoRow.holds Try.pinned (OpenSpec.upto fnSupportsSpec)

/-- 'laws.FnEroded', WHERE WHAT IT READS IS OF BULK AT MOST 1048576: true; the input reads as it did. -/
def fnErodedUptoRow : OpenClaim := { program := "ytfmjoampcmjiaaa", sum := "f0b5f92154ece51b55734c43a53260d5448353cfe110c7936de0443fd4e620da", func := "loop.example/g00832/laws.FnEroded", spec := "fnEroded", unfollowed := true, recurses := true, apart := false, narrowed := true }
def FnErodedUptoSaid : Prop := fnErodedUptoRow.holds Try.pinned (OpenSpec.upto fnErodedSpec)

/-- 'laws.FnGrown', WHERE WHAT IT READS IS OF BULK AT MOST 1048576: true; the input reads as it did. -/
def fnGrownUptoRow : OpenClaim := { program := "ytfmjoampcmjiaaa", sum := "f0b5f92154ece51b55734c43a53260d5448353cfe110c7936de0443fd4e620da", func := "loop.example/g00832/laws.FnGrown", spec := "fnGrown", unfollowed := true, recurses := true, apart := false, narrowed := true }
def FnGrownUptoSaid : Prop := fnGrownUptoRow.holds Try.pinned (OpenSpec.upto fnGrownSpec)

/-- 'laws.FnPulled', WHERE WHAT IT READS IS OF BULK AT MOST 1048576: true; the input reads as it did. -/
def fnPulledUptoRow : OpenClaim := { program := "ytfmjoampcmjiaaa", sum := "f0b5f92154ece51b55734c43a53260d5448353cfe110c7936de0443fd4e620da", func := "loop.example/g00832/laws.FnPulled", spec := "fnPulled", unfollowed := true, recurses := true, apart := false, narrowed := true }
def FnPulledUptoSaid : Prop := fnPulledUptoRow.holds Try.pinned (OpenSpec.upto fnPulledSpec)

/-- 'laws.FnMirrored', WHERE WHAT IT READS IS OF BULK AT MOST 1048576: true; the input reads as it did. -/
def fnMirroredUptoRow : OpenClaim := { program := "ytfmjoampcmjiaaa", sum := "f0b5f92154ece51b55734c43a53260d5448353cfe110c7936de0443fd4e620da", func := "loop.example/g00832/laws.FnMirrored", spec := "fnMirrored", unfollowed := true, recurses := true, apart := false, narrowed := true }
def FnMirroredUptoSaid : Prop := fnMirroredUptoRow.holds Try.pinned (OpenSpec.upto fnMirroredSpec)

/-- 'laws.FnExactCutRegion', WHERE WHAT IT READS IS OF BULK AT MOST 1048576: true; the input reads as it did. -/
def fnExactCutRegionUptoRow : OpenClaim := { program := "ytfmjoampcmjiaaa", sum := "f0b5f92154ece51b55734c43a53260d5448353cfe110c7936de0443fd4e620da", func := "loop.example/g00832/laws.FnExactCutRegion", spec := "fnExactCutRegion", unfollowed := true, recurses := true, apart := false, narrowed := true }
def FnExactCutRegionUptoSaid : Prop := fnExactCutRegionUptoRow.holds Try.pinned (OpenSpec.upto fnExactCutRegionSpec)

/-- 'laws.FnExactIsWithin', WHERE WHAT IT READS IS OF BULK AT MOST 1048576: true; the input reads as it did. -/
def fnExactIsWithinUptoRow : OpenClaim := { program := "ytfmjoampcmjiaaa", sum := "f0b5f92154ece51b55734c43a53260d5448353cfe110c7936de0443fd4e620da", func := "loop.example/g00832/laws.FnExactIsWithin", spec := "fnExactIsWithin", unfollowed := true, recurses := true, apart := false, narrowed := true }
def FnExactIsWithinUptoSaid : Prop := fnExactIsWithinUptoRow.holds Try.pinned (OpenSpec.upto fnExactIsWithinSpec)

/-- 'laws.FnExactSupportOf', WHERE WHAT IT READS IS OF BULK AT MOST 1048576: true; the input reads as it did. -/
def fnExactSupportOfUptoRow : OpenClaim := { program := "ytfmjoampcmjiaaa", sum := "f0b5f92154ece51b55734c43a53260d5448353cfe110c7936de0443fd4e620da", func := "loop.example/g00832/laws.FnExactSupportOf", spec := "fnExactSupportOf", unfollowed := true, recurses := true, apart := false, narrowed := true }
def FnExactSupportOfUptoSaid : Prop := fnExactSupportOfUptoRow.holds Try.pinned (OpenSpec.upto fnExactSupportOfSpec)

/-- 'laws.FnExactWidthOf', WHERE WHAT IT READS IS OF BULK AT MOST 1048576: true; the input reads as it did. -/
def fnExactWidthOfUptoRow : OpenClaim := { program := "ytfmjoampcmjiaaa", sum := "f0b5f92154ece51b55734c43a53260d5448353cfe110c7936de0443fd4e620da", func := "loop.example/g00832/laws.FnExactWidthOf", spec := "fnExactWidthOf", unfollowed := true, recurses := true, apart := false, narrowed := true }
def FnExactWidthOfUptoSaid : Prop := fnExactWidthOfUptoRow.holds Try.pinned (OpenSpec.upto fnExactWidthOfSpec)

/-- 'laws.FnExactFarthestCorner', WHERE WHAT IT READS IS OF BULK AT MOST 1048576: true; the input reads as it did. -/
def fnExactFarthestCornerUptoRow : OpenClaim := { program := "ytfmjoampcmjiaaa", sum := "f0b5f92154ece51b55734c43a53260d5448353cfe110c7936de0443fd4e620da", func := "loop.example/g00832/laws.FnExactFarthestCorner", spec := "fnExactFarthestCorner", unfollowed := true, recurses := true, apart := false, narrowed := true }
def FnExactFarthestCornerUptoSaid : Prop := fnExactFarthestCornerUptoRow.holds Try.pinned (OpenSpec.upto fnExactFarthestCornerSpec)

/-- 'laws.FnExactIsCorner', WHERE WHAT IT READS IS OF BULK AT MOST 1048576: true; the input reads as it did. -/
def fnExactIsCornerUptoRow : OpenClaim := { program := "ytfmjoampcmjiaaa", sum := "f0b5f92154ece51b55734c43a53260d5448353cfe110c7936de0443fd4e620da", func := "loop.example/g00832/laws.FnExactIsCorner", spec := "fnExactIsCorner", unfollowed := true, recurses := true, apart := false, narrowed := true }
def FnExactIsCornerUptoSaid : Prop := fnExactIsCornerUptoRow.holds Try.pinned (OpenSpec.upto fnExactIsCornerSpec)

/-- 'laws.FnExactShiftRegion', WHERE WHAT IT READS IS OF BULK AT MOST 1048576: true; the input reads as it did. -/
def fnExactShiftRegionUptoRow : OpenClaim := { program := "ytfmjoampcmjiaaa", sum := "f0b5f92154ece51b55734c43a53260d5448353cfe110c7936de0443fd4e620da", func := "loop.example/g00832/laws.FnExactShiftRegion", spec := "fnExactShiftRegion", unfollowed := true, recurses := true, apart := false, narrowed := true }
def FnExactShiftRegionUptoSaid : Prop := fnExactShiftRegionUptoRow.holds Try.pinned (OpenSpec.upto fnExactShiftRegionSpec)

/-- 'laws.FnExactErodeRegion', WHERE WHAT IT READS IS OF BULK AT MOST 1048576: true; the input reads as it did. -/
def fnExactErodeRegionUptoRow : OpenClaim := { program := "ytfmjoampcmjiaaa", sum := "f0b5f92154ece51b55734c43a53260d5448353cfe110c7936de0443fd4e620da", func := "loop.example/g00832/laws.FnExactErodeRegion", spec := "fnExactErodeRegion", unfollowed := true, recurses := true, apart := false, narrowed := true }
def FnExactErodeRegionUptoSaid : Prop := fnExactErodeRegionUptoRow.holds Try.pinned (OpenSpec.upto fnExactErodeRegionSpec)

/-- 'laws.FnExactGrowAlong', WHERE WHAT IT READS IS OF BULK AT MOST 1048576: true; the input reads as it did. -/
def fnExactGrowAlongUptoRow : OpenClaim := { program := "ytfmjoampcmjiaaa", sum := "f0b5f92154ece51b55734c43a53260d5448353cfe110c7936de0443fd4e620da", func := "loop.example/g00832/laws.FnExactGrowAlong", spec := "fnExactGrowAlong", unfollowed := true, recurses := true, apart := false, narrowed := true }
def FnExactGrowAlongUptoSaid : Prop := fnExactGrowAlongUptoRow.holds Try.pinned (OpenSpec.upto fnExactGrowAlongSpec)

/-- 'laws.FnExactPullBack', WHERE WHAT IT READS IS OF BULK AT MOST 1048576: true; the input reads as it did. -/
def fnExactPullBackUptoRow : OpenClaim := { program := "ytfmjoampcmjiaaa", sum := "f0b5f92154ece51b55734c43a53260d5448353cfe110c7936de0443fd4e620da", func := "loop.example/g00832/laws.FnExactPullBack", spec := "fnExactPullBack", unfollowed := true, recurses := true, apart := false, narrowed := true }
def FnExactPullBackUptoSaid : Prop := fnExactPullBackUptoRow.holds Try.pinned (OpenSpec.upto fnExactPullBackSpec)

/-- 'laws.FnExactMapSpot', WHERE WHAT IT READS IS OF BULK AT MOST 1048576: true; the input reads as it did. -/
def fnExactMapSpotUptoRow : OpenClaim := { program := "ytfmjoampcmjiaaa", sum := "f0b5f92154ece51b55734c43a53260d5448353cfe110c7936de0443fd4e620da", func := "loop.example/g00832/laws.FnExactMapSpot", spec := "fnExactMapSpot", apart := false, narrowed := true }
def FnExactMapSpotUptoSaid : Prop := fnExactMapSpotUptoRow.holds Try.pinned (OpenSpec.upto fnExactMapSpotSpec)

/-- 'laws.FnExactMirrorRegion', WHERE WHAT IT READS IS OF BULK AT MOST 1048576: true; the input reads as it did. -/
def fnExactMirrorRegionUptoRow : OpenClaim := { program := "ytfmjoampcmjiaaa", sum := "f0b5f92154ece51b55734c43a53260d5448353cfe110c7936de0443fd4e620da", func := "loop.example/g00832/laws.FnExactMirrorRegion", spec := "fnExactMirrorRegion", unfollowed := true, recurses := true, apart := false, narrowed := true }
def FnExactMirrorRegionUptoSaid : Prop := fnExactMirrorRegionUptoRow.holds Try.pinned (OpenSpec.upto fnExactMirrorRegionSpec)

end Rows
end Go.Proofs.Ytfmjoampcmjiaaa
