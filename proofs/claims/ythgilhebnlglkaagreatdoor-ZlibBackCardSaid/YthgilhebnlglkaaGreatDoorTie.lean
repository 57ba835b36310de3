/-
  DERIVED. GIVEN WITH THE SEED: THE PROGRAM's TIES (one call each: nine closed facts by the kernel) AND EACH ROW's TIE, after the 31st guide's Derived/Test/Toyas{Tie, Card}.lean. No idea stands in it: it is a product of the set-up. Laid BY PROGRAM, IN A SANDBOX (cutbox-door.mjs). By AI agents, Wed Nov 11 2026. No macro, syntax, notation, axiom, sorry.
-/
import Derived.Test.YthgilhebnlglkaaGreatDoorRows
import Derived.LaidByTextLater
import Derived.SevenTiedAt
import Derived.LaidSub
import Derived.LaidOnce
namespace Go.Proofs.YthgilhebnlglkaaGreatDoor
open Go
set_option maxRecDepth 100000
theorem seatTie1 : Tryz.prog.laidByTextLater [("platen/parse.levels", Rows.laid_platen_parse_levels), ("platen/runs.says", Rows.laid_platen_runs_says), ("platen/symbol.lengths", Rows.laid_platen_symbol_lengths), ("platen/symbol.distances", Rows.laid_platen_symbol_distances), ("platen/zlib.levels", Rows.laid_platen_zlib_levels)] [.data, .data, .wider, .wider, .data] true :=
  Program.laidByTextLater_by_one 63 8 39 (by kernel_rfl) (by kernel_rfl) (by kernel_rfl) (by kernel_rfl) (by kernel_rfl) (by kernel_rfl) (fun _ _ => by kernel_rfl)
theorem noOwnUnsafe : Tryz.pinned.checked.prog.headLifts.contains "ownunsafe" = false := by kernel_rfl
theorem tie : Tryz.prog.laidByTextLater [("platen/parse.levels", Rows.laid_platen_parse_levels), ("platen/runs.says", Rows.laid_platen_runs_says), ("platen/symbol.lengths", Rows.laid_platen_symbol_lengths), ("platen/symbol.distances", Rows.laid_platen_symbol_distances), ("platen/zlib.levels", Rows.laid_platen_zlib_levels)] [.data, .data, .wider, .wider, .data] true :=
  Program.laidByTextLater.sub seatTie1 ["platen/parse.levels", "platen/runs.says", "platen/symbol.lengths", "platen/symbol.distances", "platen/zlib.levels"] (by kernel_rfl) (by kernel_rfl)
theorem zlibReads_row_tie : Rows.zlibReadsRow.laidByTextAt .later Tryz.pinned [.data, .data, .wider, .wider, .data] true :=
  OpenClaim.laidByTextAt_later rfl rfl tie noOwnUnsafe
theorem zlibSpoilt_row_tie : Rows.zlibSpoiltRow.laidByTextAt .later Tryz.pinned [.data, .data, .wider, .wider, .data] true :=
  OpenClaim.laidByTextAt_later rfl rfl tie noOwnUnsafe
theorem zlibBack_row_tie : Rows.zlibBackRow.laidByTextAt .later Tryz.pinned [.data, .data, .wider, .wider, .data] true :=
  OpenClaim.laidByTextAt_later rfl rfl tie noOwnUnsafe
theorem imageHeads_row_tie : Rows.imageHeadsRow.laidByTextAt .later Tryz.pinned [.data, .data, .wider, .wider, .data] true :=
  OpenClaim.laidByTextAt_later rfl rfl tie noOwnUnsafe
theorem imageMakes_row_tie : Rows.imageMakesRow.laidByTextAt .later Tryz.pinned [.data, .data, .wider, .wider, .data] true :=
  OpenClaim.laidByTextAt_later rfl rfl tie noOwnUnsafe
theorem imageReads_row_tie : Rows.imageReadsRow.laidByTextAt .later Tryz.pinned [.data, .data, .wider, .wider, .data] true :=
  OpenClaim.laidByTextAt_later rfl rfl tie noOwnUnsafe
theorem zlibReadsUpto_row_tie : Rows.zlibReadsUptoRow.laidByTextAt .later Tryz.pinned [.data, .data, .wider, .wider, .data] true :=
  OpenClaim.laidByTextAt_later rfl rfl tie noOwnUnsafe
theorem zlibSpoiltUpto_row_tie : Rows.zlibSpoiltUptoRow.laidByTextAt .later Tryz.pinned [.data, .data, .wider, .wider, .data] true :=
  OpenClaim.laidByTextAt_later rfl rfl tie noOwnUnsafe
theorem zlibBackUpto_row_tie : Rows.zlibBackUptoRow.laidByTextAt .later Tryz.pinned [.data, .data, .wider, .wider, .data] true :=
  OpenClaim.laidByTextAt_later rfl rfl tie noOwnUnsafe
theorem imageHeadsUpto_row_tie : Rows.imageHeadsUptoRow.laidByTextAt .later Tryz.pinned [.data, .data, .wider, .wider, .data] true :=
  OpenClaim.laidByTextAt_later rfl rfl tie noOwnUnsafe
theorem imageMakesUpto_row_tie : Rows.imageMakesUptoRow.laidByTextAt .later Tryz.pinned [.data, .data, .wider, .wider, .data] true :=
  OpenClaim.laidByTextAt_later rfl rfl tie noOwnUnsafe
theorem imageReadsUpto_row_tie : Rows.imageReadsUptoRow.laidByTextAt .later Tryz.pinned [.data, .data, .wider, .wider, .data] true :=
  OpenClaim.laidByTextAt_later rfl rfl tie noOwnUnsafe
end Go.Proofs.YthgilhebnlglkaaGreatDoor
