/-
  DERIVED. GIVEN WITH THE SEED: THE PROGRAM's TIES (one call each: nine closed facts by the kernel) AND EACH ROW's TIE, after the 31st guide's Derived/Test/Toyas{Tie, Card}.lean. No idea stands in it: it is a product of the set-up. Laid BY PROGRAM, IN A SANDBOX (cutbox-door.mjs). By AI agents, Wed Nov 11 2026. No macro, syntax, notation, axiom, sorry.
-/
import Derived.Test.YtefejcofmopjfaaGreatDoorRows
import Derived.LaidByTextLater
import Derived.SevenTiedAt
import Derived.LaidSub
import Derived.LaidOnce
namespace Go.Proofs.YtefejcofmopjfaaGreatDoor
open Go
set_option maxRecDepth 100000
theorem seatTie1 : Tryz.prog.laidByTextLater [("ladderback/alu.goes", Rows.laid_ladderback_alu_goes), ("ladderback/block.shapes", Rows.laid_ladderback_block_shapes), ("ladderback/block.rows", Rows.laid_ladderback_block_rows), ("errors.errorType", Rows.laid_errors_errorType), ("ladderback/op.shapes", Rows.laid_ladderback_op_shapes)] [.data, .data, .data, .handle, .data] true :=
  Program.laidByTextLater_by_one 89 8 81 (by kernel_rfl) (by kernel_rfl) (by kernel_rfl) (by kernel_rfl) (by kernel_rfl) (by kernel_rfl) (fun _ _ => by kernel_rfl)
theorem noOwnUnsafe : Tryz.pinned.checked.prog.headLifts.contains "ownunsafe" = false := by kernel_rfl
theorem tie : Tryz.prog.laidByTextLater [("ladderback/alu.goes", Rows.laid_ladderback_alu_goes), ("ladderback/block.shapes", Rows.laid_ladderback_block_shapes), ("ladderback/block.rows", Rows.laid_ladderback_block_rows), ("errors.errorType", Rows.laid_errors_errorType), ("ladderback/op.shapes", Rows.laid_ladderback_op_shapes)] [.data, .data, .data, .handle, .data] true :=
  Program.laidByTextLater.sub seatTie1 ["ladderback/alu.goes", "ladderback/block.shapes", "ladderback/block.rows", "errors.errorType", "ladderback/op.shapes"] (by kernel_rfl) (by kernel_rfl)
theorem verifyChecks_row_tie : Rows.verifyChecksRow.laidByTextAt .later Tryz.pinned [.data, .data, .data, .handle, .data] true :=
  OpenClaim.laidByTextAt_later rfl rfl tie noOwnUnsafe
theorem verifyLess_row_tie : Rows.verifyLessRow.laidByTextAt .later Tryz.pinned [.data, .data, .data, .handle, .data] true :=
  OpenClaim.laidByTextAt_later rfl rfl tie noOwnUnsafe
theorem verifyChecksUpto_row_tie : Rows.verifyChecksUptoRow.laidByTextAt .later Tryz.pinned [.data, .data, .data, .handle, .data] true :=
  OpenClaim.laidByTextAt_later rfl rfl tie noOwnUnsafe
theorem verifyLessUpto_row_tie : Rows.verifyLessUptoRow.laidByTextAt .later Tryz.pinned [.data, .data, .data, .handle, .data] true :=
  OpenClaim.laidByTextAt_later rfl rfl tie noOwnUnsafe
end Go.Proofs.YtefejcofmopjfaaGreatDoor
