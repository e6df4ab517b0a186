/-
  DERIVED. GIVEN WITH THE SEED: THE PROGRAM's TIES (one call each: nine closed facts by the kernel) AND EACH ROW's TIE, after the 31st guide's Derived/Test/Toyas{Tie, Card}.lean. No idea stands in it: it is a product of the set-up. Laid BY PROGRAM, IN A SANDBOX (cutbox-door.mjs). By AI agents, Wed Nov 11 2026. No macro, syntax, notation, axiom, sorry.
-/
import Derived.Test.YtlffdadmgginmaeDoorRows
import Derived.LaidByTextLater
import Derived.SevenTiedAt
import Derived.LaidSub
import Derived.LaidOnce
namespace Go.Proofs.YtlffdadmgginmaeDoor
open Go
set_option maxRecDepth 100000
theorem seatTie1 : Tryd.prog.laidByTextLater [("errors.errorType", Rows.laid_errors_errorType), ("loop.example/s02972/impl.codeOrder", Rows.laid_loop_example_s02972_impl_codeOrder), ("loop.example/s02972/impl.gzipMarks", Rows.laid_loop_example_s02972_impl_gzipMarks)] [.handle, .data, .data] true :=
  Program.laidByTextLater_by_one 26 8 20 (by kernel_rfl) (by kernel_rfl) (by kernel_rfl) (by kernel_rfl) (by kernel_rfl) (by kernel_rfl) (fun _ _ => by kernel_rfl)
theorem noOwnUnsafe : Tryd.pinned.checked.prog.headLifts.contains "ownunsafe" = false := by kernel_rfl
theorem tie : Tryd.prog.laidByTextLater [("errors.errorType", Rows.laid_errors_errorType), ("loop.example/s02972/impl.codeOrder", Rows.laid_loop_example_s02972_impl_codeOrder)] [.handle, .data] true :=
  Program.laidByTextLater.sub seatTie1 ["errors.errorType", "loop.example/s02972/impl.codeOrder"] (by kernel_rfl) (by kernel_rfl)
theorem fnExactReadLens_row_tie : Rows.fnExactReadLensRow.laidByTextAt .later Tryd.pinned [.handle, .data] true :=
  OpenClaim.laidByTextAt_later rfl rfl tie noOwnUnsafe
theorem tie2 : Tryd.prog.laidByTextLater [("loop.example/s02972/impl.gzipMarks", Rows.laid_loop_example_s02972_impl_gzipMarks)] [.data] true :=
  Program.laidByTextLater.sub seatTie1 ["loop.example/s02972/impl.gzipMarks"] (by kernel_rfl) (by kernel_rfl)
theorem fnExactEncodeGzip_row_tie : Rows.fnExactEncodeGzipRow.laidByTextAt .later Tryd.pinned [.data] true :=
  OpenClaim.laidByTextAt_later rfl rfl tie2 noOwnUnsafe
theorem fnExactReadLensUpto_row_tie : Rows.fnExactReadLensUptoRow.laidByTextAt .later Tryd.pinned [.handle, .data] true :=
  OpenClaim.laidByTextAt_later rfl rfl tie noOwnUnsafe
theorem fnExactEncodeGzipUpto_row_tie : Rows.fnExactEncodeGzipUptoRow.laidByTextAt .later Tryd.pinned [.data] true :=
  OpenClaim.laidByTextAt_later rfl rfl tie2 noOwnUnsafe
end Go.Proofs.YtlffdadmgginmaeDoor
