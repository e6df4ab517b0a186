/-
  DERIVED. GIVEN WITH THE SEED: THE CARDS: each row of YtlfabilmilkboaaGreatDoorRows.lean that lists a variable, with what it lists TIED to the program's text (the seventh form; the later family's looks); each row that meets fmt, with fmt's text TOLD by the authors' own Lean function (tested against real Go, not proved from fmt's source: count such statements apart). THE CARD IS WHAT COUNTS. Prove the row's statement (the work); the ties are given (YtlfabilmilkboaaGreatDoorTie.lean); close each card by the builder's one call (the guide's Derived/Test/ToyasCard.lean, 'card_holds'). Laid BY PROGRAM, IN A SANDBOX (cutbox-door.mjs). By AI agents, Wed Nov 11 2026. No macro, syntax, notation, axiom, sorry.
-/
import Derived.Test.YtlfabilmilkboaaGreatDoorRows
import GoSem.ClaimSeven
namespace Go.Proofs.YtlfabilmilkboaaGreatDoor
namespace Rows

/-- THE TIED CARD OF 'laws.FnExactInflate'. -/
def fnExactInflateCard : Claim7 := { stood := { row := fnExactInflateRow, standIns := [], harness := (true, "95cca107a9036a1ed27d522d83776d4326e4e88aa78b31e4ffcafd4d31426155"), looks := true }, kinds := [], alts := [], laidByText := true, laidKinds := [.handle, .data], laidTests := true, laidLooks := .later }
def FnExactInflateCardSaid : Prop := Claim7.holds Tryz.pinned (.plain (OpenSpec.ofChange fnExactInflateSpec)) fnExactInflateCard

/-- THE SECOND FORM's CARD OF 'laws.FnExactInflate'. -/
def fnExactInflateUptoCard : Claim7 := { stood := { row := fnExactInflateUptoRow, standIns := [], harness := (true, "95cca107a9036a1ed27d522d83776d4326e4e88aa78b31e4ffcafd4d31426155"), looks := true }, kinds := [], alts := [], laidByText := true, laidKinds := [.handle, .data], laidTests := true, laidLooks := .later }
def FnExactInflateUptoCardSaid : Prop := Claim7.holds Tryz.pinned (.plain (OpenSpec.upto fnExactInflateSpec)) fnExactInflateUptoCard
end Rows
end Go.Proofs.YtlfabilmilkboaaGreatDoor
