/-
  No cell of these rows narrows 'for every input' (looked for: loops, veiled, ifaces, maps, wideKeys, modest, calm, conditions, laid).
  DERIVED. THE GIVEN ROWS OF THIS SEAT. 4 by the template 'for every input the law returns true; each argument reads behind the call as it read before'; 0 by the template 'total and deterministic' (their statements: YtibkmhmeoelpdaaGreatTotals.lean).
  GIVEN WITH THE SEED: the statements are not yours to turn. If you find one false, say at which input.
  Laid BY PROGRAM, IN A SANDBOX (cutbox-rows.mjs): the forced cells as the released guide's own fill.sh prints them over the translation d853e6b48ca6dd19… (all of the seat's roots in one cut). By AI agents, Wed Nov 11 2026. No macro, syntax, notation, axiom, sorry.
-/
import Derived.Test.YtibkmhmeoelpdaaGreatChecked
import GoSem.Claim
import GoSem.ClaimJoined
import GoSem.ClaimMapViews
import Derived.JoinedTies
import Derived.KernelRfl
namespace Go.Proofs.YtibkmhmeoelpdaaGreat
/- THE CELL 'sum', in the pinned program and in every row, IS THE sha256 OF THE DUMP (.gsa) THAT YtibkmhmeoelpdaaGreatProg.lean LOADS. Nothing in Lean hashes anything: it is a label: what it is worth is what the hold of that sum in a sandbox is worth. -/
noncomputable def Tryz.pinned : Pinned := { name := "ytibkmhmeoelpdaagreat", sum := "d853e6b48ca6dd195ce93093a03b68273bae65c8bbcb57a9c138503c5446793b", checked := Tryz.checked }
namespace Rows
def none {H : Type} : Left H := { results := [], args := [] }

/-- 'laws.FnExactAdmitAt': WHATEVER THE INPUT: true; the input reads as it did. -/
def fnExactAdmitAtSpec : ChangeSpec := { name := "fnExactAdmitAt", fn := fun _ => fun
  | [d1, d2, d3] => { results := [.lit (.bool true)], args := [d1, d2, d3] }
  | _ => none }
def fnExactAdmitAtRow : OpenClaim := { program := "ytibkmhmeoelpdaagreat", sum := "d853e6b48ca6dd195ce93093a03b68273bae65c8bbcb57a9c138503c5446793b", func := "loop.example/g00832/laws.FnExactAdmitAt", spec := "fnExactAdmitAt", unfollowed := true, recurses := true, apart := false }
def FnExactAdmitAtSaid : Prop := fnExactAdmitAtRow.holds Tryz.pinned (OpenSpec.ofChange fnExactAdmitAtSpec)

/-- ITS FALSE NEIGHBOUR: 'it returns false'. Refute it at one input. -/
def fnExactAdmitAtWrong : ChangeSpec := { name := "fnExactAdmitAt", fn := fun _ => fun
  | [d1, d2, d3] => { results := [.lit (.bool false)], args := [d1, d2, d3] }
  | _ => none }
def FnExactAdmitAtWrongFalsely : Prop := fnExactAdmitAtRow.holds Tryz.pinned (OpenSpec.ofChange fnExactAdmitAtWrong)

/-- 'laws.FnPre': WHATEVER THE INPUT: true; the input reads as it did. -/
def fnPreSpec : ChangeSpec := { name := "fnPre", fn := fun _ => fun
  | [d] => { results := [.lit (.bool true)], args := [d] }
  | _ => none }
def fnPreRow : OpenClaim := { program := "ytibkmhmeoelpdaagreat", sum := "d853e6b48ca6dd195ce93093a03b68273bae65c8bbcb57a9c138503c5446793b", func := "loop.example/g00832/laws.FnPre", spec := "fnPre", unfollowed := true, recurses := true, apart := false }
def FnPreSaid : Prop := fnPreRow.holds Tryz.pinned (OpenSpec.ofChange fnPreSpec)

/-- ITS FALSE NEIGHBOUR: 'it returns false'. Refute it at one input. -/
def fnPreWrong : ChangeSpec := { name := "fnPre", fn := fun _ => fun
  | [d] => { results := [.lit (.bool false)], args := [d] }
  | _ => none }
def FnPreWrongFalsely : Prop := fnPreRow.holds Tryz.pinned (OpenSpec.ofChange fnPreWrong)

/-- 'laws.FnHeld': WHATEVER THE INPUT: true; the input reads as it did. -/
def fnHeldSpec : ChangeSpec := { name := "fnHeld", fn := fun _ => fun
  | [d] => { results := [.lit (.bool true)], args := [d] }
  | _ => none }
def fnHeldRow : OpenClaim := { program := "ytibkmhmeoelpdaagreat", sum := "d853e6b48ca6dd195ce93093a03b68273bae65c8bbcb57a9c138503c5446793b", func := "loop.example/g00832/laws.FnHeld", spec := "fnHeld", unfollowed := true, recurses := true, apart := false }
def FnHeldSaid : Prop := fnHeldRow.holds Tryz.pinned (OpenSpec.ofChange fnHeldSpec)

/-- ITS FALSE NEIGHBOUR: 'it returns false'. Refute it at one input. -/
def fnHeldWrong : ChangeSpec := { name := "fnHeld", fn := fun _ => fun
  | [d] => { results := [.lit (.bool false)], args := [d] }
  | _ => none }
def FnHeldWrongFalsely : Prop := fnHeldRow.holds Tryz.pinned (OpenSpec.ofChange fnHeldWrong)

/-- 'laws.FnAdmits': WHATEVER THE INPUT: true; the input reads as it did. -/
def fnAdmitsSpec : ChangeSpec := { name := "fnAdmits", fn := fun _ => fun
  | [d] => { results := [.lit (.bool true)], args := [d] }
  | _ => none }
def fnAdmitsRow : OpenClaim := { program := "ytibkmhmeoelpdaagreat", sum := "d853e6b48ca6dd195ce93093a03b68273bae65c8bbcb57a9c138503c5446793b", func := "loop.example/g00832/laws.FnAdmits", spec := "fnAdmits", unfollowed := true, recurses := true, apart := false }
def FnAdmitsSaid : Prop := fnAdmitsRow.holds Tryz.pinned (OpenSpec.ofChange fnAdmitsSpec)

/-- ITS FALSE NEIGHBOUR: 'it returns false'. Refute it at one input. -/
def fnAdmitsWrong : ChangeSpec := { name := "fnAdmits", fn := fun _ => fun
  | [d] => { results := [.lit (.bool false)], args := [d] }
  | _ => none }
def FnAdmitsWrongFalsely : Prop := fnAdmitsRow.holds Tryz.pinned (OpenSpec.ofChange fnAdmitsWrong)

/- THE SECOND FORM. 'bulk': how many values and letters a reading holds, each counted each time it is reached (what is shared counts as often as it is met; a slice's spare places count too). A statement '..UptoSaid' is the law's where the arguments, and the package variables that the reading takes, are together of bulk at most 1048576: NARROWER than '..Said'. Prove '..Said' where nothing that the law and all that it calls make is longer than what came in: it says more and counts as full. Else prove '..UptoSaid'. A law counts once. -/
mutual
def uptoBulk {H : Type} : DataW H → Nat
  | .lit (.string bytes) => bytes.length + 1
  | .lit _ => 1
  | .nil => 1
  | .ptr d => uptoBulk d + 1
  | .slice elems spare => uptoBulkAll elems + uptoBulkAll spare + 1
  | .agg parts => uptoBulkAll parts + 1
  | .iface _ d => uptoBulk d + 1
  | .map entries => uptoBulkEntries entries + 1
  | .held _ => 1
def uptoBulkAll {H : Type} : List (DataW H) → Nat
  | [] => 0
  | d :: r => uptoBulk d + uptoBulkAll r
def uptoBulkEntries {H : Type} : List (Lit × DataW H) → Nat
  | [] => 0
  | x :: r => uptoBulkEntry x + uptoBulkEntries r
def uptoBulkEntry {H : Type} : Lit × DataW H → Nat
  | (.string bytes, d) => bytes.length + uptoBulk d + 1
  | (_, d) => uptoBulk d + 1
 end
def uptoSmall : (H : Type) → List (DataW H) → Bool := fun _ ds => decide (uptoBulkAll ds ≤ 1048576)
def OpenSpec.upto (s : _root_.Go.ChangeSpec) : _root_.Go.OpenSpec := { _root_.Go.OpenSpec.ofChange s with cond := some uptoSmall }

/-- 'laws.FnExactAdmitAt', WHERE WHAT IT READS IS OF BULK AT MOST 1048576: true; the input reads as it did. -/
def fnExactAdmitAtUptoRow : OpenClaim := { program := "ytibkmhmeoelpdaagreat", sum := "d853e6b48ca6dd195ce93093a03b68273bae65c8bbcb57a9c138503c5446793b", func := "loop.example/g00832/laws.FnExactAdmitAt", spec := "fnExactAdmitAt", unfollowed := true, recurses := true, apart := false, narrowed := true }
def FnExactAdmitAtUptoSaid : Prop := fnExactAdmitAtUptoRow.holds Tryz.pinned (OpenSpec.upto fnExactAdmitAtSpec)

/-- 'laws.FnPre', WHERE WHAT IT READS IS OF BULK AT MOST 1048576: true; the input reads as it did. -/
def fnPreUptoRow : OpenClaim := { program := "ytibkmhmeoelpdaagreat", sum := "d853e6b48ca6dd195ce93093a03b68273bae65c8bbcb57a9c138503c5446793b", func := "loop.example/g00832/laws.FnPre", spec := "fnPre", unfollowed := true, recurses := true, apart := false, narrowed := true }
def FnPreUptoSaid : Prop := fnPreUptoRow.holds Tryz.pinned (OpenSpec.upto fnPreSpec)

/-- 'laws.FnHeld', WHERE WHAT IT READS IS OF BULK AT MOST 1048576: true; the input reads as it did. -/
def fnHeldUptoRow : OpenClaim := { program := "ytibkmhmeoelpdaagreat", sum := "d853e6b48ca6dd195ce93093a03b68273bae65c8bbcb57a9c138503c5446793b", func := "loop.example/g00832/laws.FnHeld", spec := "fnHeld", unfollowed := true, recurses := true, apart := false, narrowed := true }
def FnHeldUptoSaid : Prop := fnHeldUptoRow.holds Tryz.pinned (OpenSpec.upto fnHeldSpec)

/-- 'laws.FnAdmits', WHERE WHAT IT READS IS OF BULK AT MOST 1048576: true; the input reads as it did. -/
def fnAdmitsUptoRow : OpenClaim := { program := "ytibkmhmeoelpdaagreat", sum := "d853e6b48ca6dd195ce93093a03b68273bae65c8bbcb57a9c138503c5446793b", func := "loop.example/g00832/laws.FnAdmits", spec := "fnAdmits", unfollowed := true, recurses := true, apart := false, narrowed := true }
def FnAdmitsUptoSaid : Prop := fnAdmitsUptoRow.holds Tryz.pinned (OpenSpec.upto fnAdmitsSpec)

end Rows
end Go.Proofs.YtibkmhmeoelpdaaGreat
