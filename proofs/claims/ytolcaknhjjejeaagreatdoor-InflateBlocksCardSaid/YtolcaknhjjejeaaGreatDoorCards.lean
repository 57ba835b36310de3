/-
  DERIVED. GIVEN WITH THE SEED: THE CARDS: each row of YtolcaknhjjejeaaGreatDoorRows.lean that lists a variable, with what it lists TIED to the program's text (the seventh form; the later family's looks); each row that meets fmt, with fmt's text TOLD by the authors' own Lean function (tested against real Go, not proved from fmt's source: count such statements apart). THE CARD IS WHAT COUNTS. Prove the row's statement (the work); the ties are given (YtolcaknhjjejeaaGreatDoorTie.lean); close each card by the builder's one call (the guide's Derived/Test/ToyasCard.lean, 'card_holds'). Laid BY PROGRAM, IN A SANDBOX (cutbox-door.mjs). By AI agents, Wed Nov 11 2026. No macro, syntax, notation, axiom, sorry.
-/
import Derived.Test.YtolcaknhjjejeaaGreatDoorRows
import GoSem.ClaimSeven
namespace Go.Proofs.YtolcaknhjjejeaaGreatDoor
namespace Rows

/-- THE TIED CARD OF 'platenlaw16.InflateSpoilt'. -/
def inflateSpoiltCard : Claim7 := { stood := { row := inflateSpoiltRow, standIns := [], harness := (true, "83a861c737f8b13dfe56da0bca33c00c77db8b4cb7d0ef8605ba1b7aee15166b"), looks := true }, kinds := [], alts := [], laidByText := true, laidKinds := [.data, .wider, .wider], laidTests := true, laidLooks := .later }
def InflateSpoiltCardSaid : Prop := Claim7.holds Tryz.pinned (.plain (OpenSpec.ofChange inflateSpoiltSpec)) inflateSpoiltCard

/-- THE TIED CARD OF 'platenlaw16.InflateBack'. -/
def inflateBackCard : Claim7 := { stood := { row := inflateBackRow, standIns := [], harness := (true, "83a861c737f8b13dfe56da0bca33c00c77db8b4cb7d0ef8605ba1b7aee15166b"), looks := true }, kinds := [], alts := [], laidByText := true, laidKinds := [.data, .wider, .wider], laidTests := true, laidLooks := .later }
def InflateBackCardSaid : Prop := Claim7.holds Tryz.pinned (.plain (OpenSpec.ofChange inflateBackSpec)) inflateBackCard

/-- THE TIED CARD OF 'platenlaw16.InflateCuts'. -/
def inflateCutsCard : Claim7 := { stood := { row := inflateCutsRow, standIns := [], harness := (true, "83a861c737f8b13dfe56da0bca33c00c77db8b4cb7d0ef8605ba1b7aee15166b"), looks := true }, kinds := [], alts := [], laidByText := true, laidKinds := [.data, .wider, .wider], laidTests := true, laidLooks := .later }
def InflateCutsCardSaid : Prop := Claim7.holds Tryz.pinned (.plain (OpenSpec.ofChange inflateCutsSpec)) inflateCutsCard

/-- THE TIED CARD OF 'platenlaw16.InflateBlocks'. -/
def inflateBlocksCard : Claim7 := { stood := { row := inflateBlocksRow, standIns := [], harness := (true, "83a861c737f8b13dfe56da0bca33c00c77db8b4cb7d0ef8605ba1b7aee15166b"), looks := true }, kinds := [], alts := [], laidByText := true, laidKinds := [.data, .wider, .wider], laidTests := true, laidLooks := .later }
def InflateBlocksCardSaid : Prop := Claim7.holds Tryz.pinned (.plain (OpenSpec.ofChange inflateBlocksSpec)) inflateBlocksCard

/-- THE SECOND FORM's CARD OF 'platenlaw16.InflateSpoilt'. -/
def inflateSpoiltUptoCard : Claim7 := { stood := { row := inflateSpoiltUptoRow, standIns := [], harness := (true, "83a861c737f8b13dfe56da0bca33c00c77db8b4cb7d0ef8605ba1b7aee15166b"), looks := true }, kinds := [], alts := [], laidByText := true, laidKinds := [.data, .wider, .wider], laidTests := true, laidLooks := .later }
def InflateSpoiltUptoCardSaid : Prop := Claim7.holds Tryz.pinned (.plain (OpenSpec.upto inflateSpoiltSpec)) inflateSpoiltUptoCard

/-- THE SECOND FORM's CARD OF 'platenlaw16.InflateBack'. -/
def inflateBackUptoCard : Claim7 := { stood := { row := inflateBackUptoRow, standIns := [], harness := (true, "83a861c737f8b13dfe56da0bca33c00c77db8b4cb7d0ef8605ba1b7aee15166b"), looks := true }, kinds := [], alts := [], laidByText := true, laidKinds := [.data, .wider, .wider], laidTests := true, laidLooks := .later }
def InflateBackUptoCardSaid : Prop := Claim7.holds Tryz.pinned (.plain (OpenSpec.upto inflateBackSpec)) inflateBackUptoCard

/-- THE SECOND FORM's CARD OF 'platenlaw16.InflateCuts'. -/
def inflateCutsUptoCard : Claim7 := { stood := { row := inflateCutsUptoRow, standIns := [], harness := (true, "83a861c737f8b13dfe56da0bca33c00c77db8b4cb7d0ef8605ba1b7aee15166b"), looks := true }, kinds := [], alts := [], laidByText := true, laidKinds := [.data, .wider, .wider], laidTests := true, laidLooks := .later }
def InflateCutsUptoCardSaid : Prop := Claim7.holds Tryz.pinned (.plain (OpenSpec.upto inflateCutsSpec)) inflateCutsUptoCard

/-- THE SECOND FORM's CARD OF 'platenlaw16.InflateBlocks'. -/
def inflateBlocksUptoCard : Claim7 := { stood := { row := inflateBlocksUptoRow, standIns := [], harness := (true, "83a861c737f8b13dfe56da0bca33c00c77db8b4cb7d0ef8605ba1b7aee15166b"), looks := true }, kinds := [], alts := [], laidByText := true, laidKinds := [.data, .wider, .wider], laidTests := true, laidLooks := .later }
def InflateBlocksUptoCardSaid : Prop := Claim7.holds Tryz.pinned (.plain (OpenSpec.upto inflateBlocksSpec)) inflateBlocksUptoCard
end Rows
end Go.Proofs.YtolcaknhjjejeaaGreatDoor
