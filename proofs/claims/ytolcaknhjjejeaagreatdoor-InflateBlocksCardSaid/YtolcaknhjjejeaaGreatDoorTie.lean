/-
  DERIVED. GIVEN WITH THE SEED: THE PROGRAM's TIES (one call each: nine closed facts by the kernel) AND EACH ROW's TIE, after the 31st guide's Derived/Test/Toyas{Tie, Card}.lean. No idea stands in it: it is a product of the set-up. Laid BY PROGRAM, IN A SANDBOX (cutbox-door.mjs). By AI agents, Wed Nov 11 2026. No macro, syntax, notation, axiom, sorry.
-/
import Derived.Test.YtolcaknhjjejeaaGreatDoorRows
import Derived.LaidByTextLater
import Derived.SevenTiedAt
import Derived.LaidSub
import Derived.LaidOnce
namespace Go.Proofs.YtolcaknhjjejeaaGreatDoor
open Go
set_option maxRecDepth 100000
theorem seatTie1 : Tryz.prog.laidByTextLater [("platen/runs.says", Rows.laid_platen_runs_says), ("platen/symbol.lengths", Rows.laid_platen_symbol_lengths), ("platen/symbol.distances", Rows.laid_platen_symbol_distances)] [.data, .wider, .wider] true :=
  Program.laidByTextLater_by_one 43 8 39 (by kernel_rfl) (by kernel_rfl) (by kernel_rfl) (by kernel_rfl) (by kernel_rfl) (by kernel_rfl) (fun _ _ => by kernel_rfl)
theorem noOwnUnsafe : Tryz.pinned.checked.prog.headLifts.contains "ownunsafe" = false := by kernel_rfl
theorem tie : Tryz.prog.laidByTextLater [("platen/runs.says", Rows.laid_platen_runs_says), ("platen/symbol.lengths", Rows.laid_platen_symbol_lengths), ("platen/symbol.distances", Rows.laid_platen_symbol_distances)] [.data, .wider, .wider] true :=
  Program.laidByTextLater.sub seatTie1 ["platen/runs.says", "platen/symbol.lengths", "platen/symbol.distances"] (by kernel_rfl) (by kernel_rfl)
theorem inflateSpoilt_row_tie : Rows.inflateSpoiltRow.laidByTextAt .later Tryz.pinned [.data, .wider, .wider] true :=
  OpenClaim.laidByTextAt_later rfl rfl tie noOwnUnsafe
theorem inflateBack_row_tie : Rows.inflateBackRow.laidByTextAt .later Tryz.pinned [.data, .wider, .wider] true :=
  OpenClaim.laidByTextAt_later rfl rfl tie noOwnUnsafe
theorem inflateCuts_row_tie : Rows.inflateCutsRow.laidByTextAt .later Tryz.pinned [.data, .wider, .wider] true :=
  OpenClaim.laidByTextAt_later rfl rfl tie noOwnUnsafe
theorem inflateBlocks_row_tie : Rows.inflateBlocksRow.laidByTextAt .later Tryz.pinned [.data, .wider, .wider] true :=
  OpenClaim.laidByTextAt_later rfl rfl tie noOwnUnsafe
theorem inflateSpoiltUpto_row_tie : Rows.inflateSpoiltUptoRow.laidByTextAt .later Tryz.pinned [.data, .wider, .wider] true :=
  OpenClaim.laidByTextAt_later rfl rfl tie noOwnUnsafe
theorem inflateBackUpto_row_tie : Rows.inflateBackUptoRow.laidByTextAt .later Tryz.pinned [.data, .wider, .wider] true :=
  OpenClaim.laidByTextAt_later rfl rfl tie noOwnUnsafe
theorem inflateCutsUpto_row_tie : Rows.inflateCutsUptoRow.laidByTextAt .later Tryz.pinned [.data, .wider, .wider] true :=
  OpenClaim.laidByTextAt_later rfl rfl tie noOwnUnsafe
theorem inflateBlocksUpto_row_tie : Rows.inflateBlocksUptoRow.laidByTextAt .later Tryz.pinned [.data, .wider, .wider] true :=
  OpenClaim.laidByTextAt_later rfl rfl tie noOwnUnsafe
end Go.Proofs.YtolcaknhjjejeaaGreatDoor
