/-
  DERIVED. GIVEN WITH THE SEED: THE CARDS: each row of YtlffdadmgginmaeDoorRows.lean that lists a variable, with what it lists TIED to the program's text (the seventh form; the later family's looks); each row that meets fmt, with fmt's text TOLD by the authors' own Lean function (tested against real Go, not proved from fmt's source: count such statements apart). THE CARD IS WHAT COUNTS. Prove the row's statement (the work); the ties are given (YtlffdadmgginmaeDoorTie.lean); close each card by the builder's one call (the guide's Derived/Test/ToyasCard.lean, 'card_holds'). Laid BY PROGRAM, IN A SANDBOX (cutbox-door.mjs). By AI agents, Wed Nov 11 2026. No macro, syntax, notation, axiom, sorry.
-/
import Derived.Test.YtlffdadmgginmaeDoorRows
import GoSem.ClaimSeven
namespace Go.Proofs.YtlffdadmgginmaeDoor
namespace Rows

/-- THE TIED CARD OF 'laws.FnExactReadLens'. -/
def fnExactReadLensCard : Claim7 := { stood := { row := fnExactReadLensRow, standIns := [], harness := (true, "a4ffb747f3c697ea55fa129cfd2312245ba99756ab6492e5231ae0e882939412"), looks := true }, kinds := [], alts := [], goes := true, laidByText := true, laidKinds := [.handle, .data], laidTests := true, laidLooks := .later }
def FnExactReadLensCardSaid : Prop := Claim7.holds Tryd.pinned (.plain (OpenSpec.ofChange fnExactReadLensSpec)) fnExactReadLensCard

/-- THE TIED CARD OF 'laws.FnExactEncodeGzip'. -/
def fnExactEncodeGzipCard : Claim7 := { stood := { row := fnExactEncodeGzipRow, standIns := [], harness := (true, "a4ffb747f3c697ea55fa129cfd2312245ba99756ab6492e5231ae0e882939412"), looks := true }, kinds := [], alts := [], goes := true, laidByText := true, laidKinds := [.data], laidTests := true, laidLooks := .later }
def FnExactEncodeGzipCardSaid : Prop := Claim7.holds Tryd.pinned (.plain (OpenSpec.ofChange fnExactEncodeGzipSpec)) fnExactEncodeGzipCard

/-- THE SECOND FORM's CARD OF 'laws.FnExactReadLens'. -/
def fnExactReadLensUptoCard : Claim7 := { stood := { row := fnExactReadLensUptoRow, standIns := [], harness := (true, "a4ffb747f3c697ea55fa129cfd2312245ba99756ab6492e5231ae0e882939412"), looks := true }, kinds := [], alts := [], goes := true, laidByText := true, laidKinds := [.handle, .data], laidTests := true, laidLooks := .later }
def FnExactReadLensUptoCardSaid : Prop := Claim7.holds Tryd.pinned (.plain (OpenSpec.upto fnExactReadLensSpec)) fnExactReadLensUptoCard

/-- THE SECOND FORM's CARD OF 'laws.FnExactEncodeGzip'. -/
def fnExactEncodeGzipUptoCard : Claim7 := { stood := { row := fnExactEncodeGzipUptoRow, standIns := [], harness := (true, "a4ffb747f3c697ea55fa129cfd2312245ba99756ab6492e5231ae0e882939412"), looks := true }, kinds := [], alts := [], goes := true, laidByText := true, laidKinds := [.data], laidTests := true, laidLooks := .later }
def FnExactEncodeGzipUptoCardSaid : Prop := Claim7.holds Tryd.pinned (.plain (OpenSpec.upto fnExactEncodeGzipSpec)) fnExactEncodeGzipUptoCard
end Rows
end Go.Proofs.YtlffdadmgginmaeDoor
