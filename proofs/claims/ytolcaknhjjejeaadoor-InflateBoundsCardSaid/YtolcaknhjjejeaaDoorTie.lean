/-
  DERIVED. GIVEN WITH THE SEED: THE PROGRAM's TIES (one call each: nine closed facts by the kernel) AND EACH ROW's TIE, after the 31st guide's Derived/Test/Toyas{Tie, Card}.lean. No idea stands in it: it is a product of the set-up. Laid BY PROGRAM, IN A SANDBOX (cutbox-door.mjs). By AI agents, Wed Nov 11 2026. No macro, syntax, notation, axiom, sorry.
-/
import Derived.Test.YtolcaknhjjejeaaDoorRows
import Derived.LaidByTextLater
import Derived.SevenTiedAt
import Derived.LaidSub
import Derived.LaidOnce
namespace Go.Proofs.YtolcaknhjjejeaaDoor
open Go
set_option maxRecDepth 100000
theorem seatTie1 : Tryd.prog.laidByTextLater [("platen/runs.says", Rows.laid_platen_runs_says), ("platen/symbol.lengths", Rows.laid_platen_symbol_lengths), ("platen/symbol.distances", Rows.laid_platen_symbol_distances)] [.data, .wider, .wider] true :=
  Program.laidByTextLater_by_one 43 8 39 (by kernel_rfl) (by kernel_rfl) (by kernel_rfl) (by kernel_rfl) (by kernel_rfl) (by kernel_rfl) (fun _ _ => by kernel_rfl)
theorem noOwnUnsafe : Tryd.pinned.checked.prog.headLifts.contains "ownunsafe" = false := by kernel_rfl
theorem tie : Tryd.prog.laidByTextLater [("platen/runs.says", Rows.laid_platen_runs_says), ("platen/symbol.lengths", Rows.laid_platen_symbol_lengths), ("platen/symbol.distances", Rows.laid_platen_symbol_distances)] [.data, .wider, .wider] true :=
  Program.laidByTextLater.sub seatTie1 ["platen/runs.says", "platen/symbol.lengths", "platen/symbol.distances"] (by kernel_rfl) (by kernel_rfl)
theorem inflateBounds_row_tie : Rows.inflateBoundsRow.laidByTextAt .later Tryd.pinned [.data, .wider, .wider] true :=
  OpenClaim.laidByTextAt_later rfl rfl tie noOwnUnsafe
theorem inflateBoundsUpto_row_tie : Rows.inflateBoundsUptoRow.laidByTextAt .later Tryd.pinned [.data, .wider, .wider] true :=
  OpenClaim.laidByTextAt_later rfl rfl tie noOwnUnsafe
end Go.Proofs.YtolcaknhjjejeaaDoor
