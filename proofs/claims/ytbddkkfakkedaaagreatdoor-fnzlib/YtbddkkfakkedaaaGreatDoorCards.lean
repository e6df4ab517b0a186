/-
  DERIVED. GIVEN WITH THE SEED: THE CARDS: each row of YtbddkkfakkedaaaGreatDoorRows.lean that lists a variable, with what it lists TIED to the program's text (the seventh form; the later family's looks); each row that meets fmt, with fmt's text TOLD by the authors' own Lean function (tested against real Go, not proved from fmt's source: count such statements apart). THE CARD IS WHAT COUNTS. Prove the row's statement (the work); the ties are given (YtbddkkfakkedaaaGreatDoorTie.lean); close each card by the builder's one call (the guide's Derived/Test/ToyasCard.lean, 'card_holds'). Laid BY PROGRAM, IN A SANDBOX (cutbox-door.mjs). By AI agents, Wed Nov 11 2026. No macro, syntax, notation, axiom, sorry.
-/
import Derived.Test.YtbddkkfakkedaaaGreatDoorRows
import GoSem.ClaimSeven
namespace Go.Proofs.YtbddkkfakkedaaaGreatDoor
namespace Rows

/-- THE TIED CARD OF 'laws.FnZlib'. -/
def fnZlibCard : Claim7 := { stood := { row := fnZlibRow, standIns := [], harness := (true, "29d3f009d2001b906e5285946303bdc94af86d038563c91accb5a9c4f259e34c"), looks := true }, kinds := [], alts := [], goes := true, laidByText := true, laidKinds := [.handle, .data], laidTests := true, laidLooks := .later }
def FnZlibCardSaid : Prop := Claim7.holds Tryz.pinned (.plain (OpenSpec.ofChange fnZlibSpec)) fnZlibCard

/-- THE TIED CARD OF 'laws.FnGzip'. -/
def fnGzipCard : Claim7 := { stood := { row := fnGzipRow, standIns := [], harness := (true, "29d3f009d2001b906e5285946303bdc94af86d038563c91accb5a9c4f259e34c"), looks := true }, kinds := [], alts := [], goes := true, laidByText := true, laidKinds := [.handle, .data, .data], laidTests := true, laidLooks := .later }
def FnGzipCardSaid : Prop := Claim7.holds Tryz.pinned (.plain (OpenSpec.ofChange fnGzipSpec)) fnGzipCard

/-- THE SECOND FORM's CARD OF 'laws.FnZlib'. -/
def fnZlibUptoCard : Claim7 := { stood := { row := fnZlibUptoRow, standIns := [], harness := (true, "29d3f009d2001b906e5285946303bdc94af86d038563c91accb5a9c4f259e34c"), looks := true }, kinds := [], alts := [], goes := true, laidByText := true, laidKinds := [.handle, .data], laidTests := true, laidLooks := .later }
def FnZlibUptoCardSaid : Prop := Claim7.holds Tryz.pinned (.plain (OpenSpec.upto fnZlibSpec)) fnZlibUptoCard

/-- THE SECOND FORM's CARD OF 'laws.FnGzip'. -/
def fnGzipUptoCard : Claim7 := { stood := { row := fnGzipUptoRow, standIns := [], harness := (true, "29d3f009d2001b906e5285946303bdc94af86d038563c91accb5a9c4f259e34c"), looks := true }, kinds := [], alts := [], goes := true, laidByText := true, laidKinds := [.handle, .data, .data], laidTests := true, laidLooks := .later }
def FnGzipUptoCardSaid : Prop := Claim7.holds Tryz.pinned (.plain (OpenSpec.upto fnGzipSpec)) fnGzipUptoCard
end Rows
end Go.Proofs.YtbddkkfakkedaaaGreatDoor
