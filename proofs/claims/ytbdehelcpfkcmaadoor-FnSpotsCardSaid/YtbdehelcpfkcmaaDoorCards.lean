/-
  DERIVED. GIVEN WITH THE SEED: THE CARDS: each row of YtbdehelcpfkcmaaDoorRows.lean that lists a variable, with what it lists TIED to the program's text (the seventh form; the later family's looks); each row that meets fmt, with fmt's text TOLD by the authors' own Lean function (tested against real Go, not proved from fmt's source: count such statements apart). THE CARD IS WHAT COUNTS. Prove the row's statement (the work); the ties are given (YtbdehelcpfkcmaaDoorTie.lean); close each card by the builder's one call (the guide's Derived/Test/ToyasCard.lean, 'card_holds'). Laid BY PROGRAM, IN A SANDBOX (cutbox-door.mjs). By AI agents, Wed Nov 11 2026. No macro, syntax, notation, axiom, sorry.
-/
import Derived.Test.YtbdehelcpfkcmaaDoorRows
import GoSem.ClaimSeven
namespace Go.Proofs.YtbdehelcpfkcmaaDoor
namespace Rows

/-- THE TIED CARD OF 'laws.FnSpots'. -/
def fnSpotsCard : Claim7 := { stood := { row := fnSpotsRow, standIns := [], harness := (true, "4723362b2539f62d64d76d5b9f934a18e22acf4701fd1e8180aa8bdf2a2c3efc"), looks := true }, kinds := [], alts := [], laidByText := true, laidKinds := [.data, .data, .data, .sentinel, .sentinel], laidTests := true, laidLooks := .later }
def FnSpotsCardSaid : Prop := Claim7.holds Tryd.pinned (.plain (OpenSpec.ofChange fnSpotsSpec)) fnSpotsCard

/-- THE TIED CARD OF 'laws.FnExactFormatSpot'. -/
def fnExactFormatSpotCard : Claim7 := { stood := { row := fnExactFormatSpotRow, standIns := [], harness := (true, "4723362b2539f62d64d76d5b9f934a18e22acf4701fd1e8180aa8bdf2a2c3efc"), looks := true }, kinds := [], alts := [], laidByText := true, laidKinds := [.data, .data, .data], laidTests := true, laidLooks := .later }
def FnExactFormatSpotCardSaid : Prop := Claim7.holds Tryd.pinned (.plain (OpenSpec.ofChange fnExactFormatSpotSpec)) fnExactFormatSpotCard

/-- THE TIED CARD OF 'laws.FnExactParseSpot'. -/
def fnExactParseSpotCard : Claim7 := { stood := { row := fnExactParseSpotRow, standIns := [], harness := (true, "4723362b2539f62d64d76d5b9f934a18e22acf4701fd1e8180aa8bdf2a2c3efc"), looks := true }, kinds := [], alts := [], laidByText := true, laidKinds := [.data, .data, .data, .sentinel, .sentinel], laidTests := true, laidLooks := .later }
def FnExactParseSpotCardSaid : Prop := Claim7.holds Tryd.pinned (.plain (OpenSpec.ofChange fnExactParseSpotSpec)) fnExactParseSpotCard

/-- THE SECOND FORM's CARD OF 'laws.FnSpots'. -/
def fnSpotsUptoCard : Claim7 := { stood := { row := fnSpotsUptoRow, standIns := [], harness := (true, "4723362b2539f62d64d76d5b9f934a18e22acf4701fd1e8180aa8bdf2a2c3efc"), looks := true }, kinds := [], alts := [], laidByText := true, laidKinds := [.data, .data, .data, .sentinel, .sentinel], laidTests := true, laidLooks := .later }
def FnSpotsUptoCardSaid : Prop := Claim7.holds Tryd.pinned (.plain (OpenSpec.upto fnSpotsSpec)) fnSpotsUptoCard

/-- THE SECOND FORM's CARD OF 'laws.FnExactFormatSpot'. -/
def fnExactFormatSpotUptoCard : Claim7 := { stood := { row := fnExactFormatSpotUptoRow, standIns := [], harness := (true, "4723362b2539f62d64d76d5b9f934a18e22acf4701fd1e8180aa8bdf2a2c3efc"), looks := true }, kinds := [], alts := [], laidByText := true, laidKinds := [.data, .data, .data], laidTests := true, laidLooks := .later }
def FnExactFormatSpotUptoCardSaid : Prop := Claim7.holds Tryd.pinned (.plain (OpenSpec.upto fnExactFormatSpotSpec)) fnExactFormatSpotUptoCard

/-- THE SECOND FORM's CARD OF 'laws.FnExactParseSpot'. -/
def fnExactParseSpotUptoCard : Claim7 := { stood := { row := fnExactParseSpotUptoRow, standIns := [], harness := (true, "4723362b2539f62d64d76d5b9f934a18e22acf4701fd1e8180aa8bdf2a2c3efc"), looks := true }, kinds := [], alts := [], laidByText := true, laidKinds := [.data, .data, .data, .sentinel, .sentinel], laidTests := true, laidLooks := .later }
def FnExactParseSpotUptoCardSaid : Prop := Claim7.holds Tryd.pinned (.plain (OpenSpec.upto fnExactParseSpotSpec)) fnExactParseSpotUptoCard
end Rows
end Go.Proofs.YtbdehelcpfkcmaaDoor
