/-
  DERIVED. GIVEN WITH THE SEED: THE CARDS: each row of YthgilhebnlglkaaGreatDoorRows.lean that lists a variable, with what it lists TIED to the program's text (the seventh form; the later family's looks); each row that meets fmt, with fmt's text TOLD by the authors' own Lean function (tested against real Go, not proved from fmt's source: count such statements apart). THE CARD IS WHAT COUNTS. Prove the row's statement (the work); the ties are given (YthgilhebnlglkaaGreatDoorTie.lean); close each card by the builder's one call (the guide's Derived/Test/ToyasCard.lean, 'card_holds'). Laid BY PROGRAM, IN A SANDBOX (cutbox-door.mjs). By AI agents, Wed Nov 11 2026. No macro, syntax, notation, axiom, sorry.
-/
import Derived.Test.YthgilhebnlglkaaGreatDoorRows
import GoSem.ClaimSeven
namespace Go.Proofs.YthgilhebnlglkaaGreatDoor
namespace Rows

/-- THE TIED CARD OF 'platenlaw17.ZlibReads'. -/
def zlibReadsCard : Claim7 := { stood := { row := zlibReadsRow, standIns := [], harness := (true, "9a6f186c4be09d24d2185c6d9a39c54001c8c49d3c1fd9a8e4a19e449757c21f"), looks := true }, kinds := [], alts := [], laidByText := true, laidKinds := [.data, .data, .wider, .wider, .data], laidTests := true, laidLooks := .later }
def ZlibReadsCardSaid : Prop := Claim7.holds Tryz.pinned (.plain (OpenSpec.ofChange zlibReadsSpec)) zlibReadsCard

/-- THE TIED CARD OF 'platenlaw17.ZlibSpoilt'. -/
def zlibSpoiltCard : Claim7 := { stood := { row := zlibSpoiltRow, standIns := [], harness := (true, "9a6f186c4be09d24d2185c6d9a39c54001c8c49d3c1fd9a8e4a19e449757c21f"), looks := true }, kinds := [], alts := [], laidByText := true, laidKinds := [.data, .data, .wider, .wider, .data], laidTests := true, laidLooks := .later }
def ZlibSpoiltCardSaid : Prop := Claim7.holds Tryz.pinned (.plain (OpenSpec.ofChange zlibSpoiltSpec)) zlibSpoiltCard

/-- THE TIED CARD OF 'platenlaw17.ZlibBack'. -/
def zlibBackCard : Claim7 := { stood := { row := zlibBackRow, standIns := [], harness := (true, "9a6f186c4be09d24d2185c6d9a39c54001c8c49d3c1fd9a8e4a19e449757c21f"), looks := true }, kinds := [], alts := [], laidByText := true, laidKinds := [.data, .data, .wider, .wider, .data], laidTests := true, laidLooks := .later }
def ZlibBackCardSaid : Prop := Claim7.holds Tryz.pinned (.plain (OpenSpec.ofChange zlibBackSpec)) zlibBackCard

/-- THE TIED CARD OF 'platenlaw19.ImageHeads'. -/
def imageHeadsCard : Claim7 := { stood := { row := imageHeadsRow, standIns := [], harness := (true, "9a6f186c4be09d24d2185c6d9a39c54001c8c49d3c1fd9a8e4a19e449757c21f"), looks := true }, kinds := [], alts := [], laidByText := true, laidKinds := [.data, .data, .wider, .wider, .data], laidTests := true, laidLooks := .later }
def ImageHeadsCardSaid : Prop := Claim7.holds Tryz.pinned (.plain (OpenSpec.ofChange imageHeadsSpec)) imageHeadsCard

/-- THE TIED CARD OF 'platenlaw19.ImageMakes'. -/
def imageMakesCard : Claim7 := { stood := { row := imageMakesRow, standIns := [], harness := (true, "9a6f186c4be09d24d2185c6d9a39c54001c8c49d3c1fd9a8e4a19e449757c21f"), looks := true }, kinds := [], alts := [], laidByText := true, laidKinds := [.data, .data, .wider, .wider, .data], laidTests := true, laidLooks := .later }
def ImageMakesCardSaid : Prop := Claim7.holds Tryz.pinned (.plain (OpenSpec.ofChange imageMakesSpec)) imageMakesCard

/-- THE TIED CARD OF 'platenlaw19.ImageReads'. -/
def imageReadsCard : Claim7 := { stood := { row := imageReadsRow, standIns := [], harness := (true, "9a6f186c4be09d24d2185c6d9a39c54001c8c49d3c1fd9a8e4a19e449757c21f"), looks := true }, kinds := [], alts := [], laidByText := true, laidKinds := [.data, .data, .wider, .wider, .data], laidTests := true, laidLooks := .later }
def ImageReadsCardSaid : Prop := Claim7.holds Tryz.pinned (.plain (OpenSpec.ofChange imageReadsSpec)) imageReadsCard

/-- THE SECOND FORM's CARD OF 'platenlaw17.ZlibReads'. -/
def zlibReadsUptoCard : Claim7 := { stood := { row := zlibReadsUptoRow, standIns := [], harness := (true, "9a6f186c4be09d24d2185c6d9a39c54001c8c49d3c1fd9a8e4a19e449757c21f"), looks := true }, kinds := [], alts := [], laidByText := true, laidKinds := [.data, .data, .wider, .wider, .data], laidTests := true, laidLooks := .later }
def ZlibReadsUptoCardSaid : Prop := Claim7.holds Tryz.pinned (.plain (OpenSpec.upto zlibReadsSpec)) zlibReadsUptoCard

/-- THE SECOND FORM's CARD OF 'platenlaw17.ZlibSpoilt'. -/
def zlibSpoiltUptoCard : Claim7 := { stood := { row := zlibSpoiltUptoRow, standIns := [], harness := (true, "9a6f186c4be09d24d2185c6d9a39c54001c8c49d3c1fd9a8e4a19e449757c21f"), looks := true }, kinds := [], alts := [], laidByText := true, laidKinds := [.data, .data, .wider, .wider, .data], laidTests := true, laidLooks := .later }
def ZlibSpoiltUptoCardSaid : Prop := Claim7.holds Tryz.pinned (.plain (OpenSpec.upto zlibSpoiltSpec)) zlibSpoiltUptoCard

/-- THE SECOND FORM's CARD OF 'platenlaw17.ZlibBack'. -/
def zlibBackUptoCard : Claim7 := { stood := { row := zlibBackUptoRow, standIns := [], harness := (true, "9a6f186c4be09d24d2185c6d9a39c54001c8c49d3c1fd9a8e4a19e449757c21f"), looks := true }, kinds := [], alts := [], laidByText := true, laidKinds := [.data, .data, .wider, .wider, .data], laidTests := true, laidLooks := .later }
def ZlibBackUptoCardSaid : Prop := Claim7.holds Tryz.pinned (.plain (OpenSpec.upto zlibBackSpec)) zlibBackUptoCard

/-- THE SECOND FORM's CARD OF 'platenlaw19.ImageHeads'. -/
def imageHeadsUptoCard : Claim7 := { stood := { row := imageHeadsUptoRow, standIns := [], harness := (true, "9a6f186c4be09d24d2185c6d9a39c54001c8c49d3c1fd9a8e4a19e449757c21f"), looks := true }, kinds := [], alts := [], laidByText := true, laidKinds := [.data, .data, .wider, .wider, .data], laidTests := true, laidLooks := .later }
def ImageHeadsUptoCardSaid : Prop := Claim7.holds Tryz.pinned (.plain (OpenSpec.upto imageHeadsSpec)) imageHeadsUptoCard

/-- THE SECOND FORM's CARD OF 'platenlaw19.ImageMakes'. -/
def imageMakesUptoCard : Claim7 := { stood := { row := imageMakesUptoRow, standIns := [], harness := (true, "9a6f186c4be09d24d2185c6d9a39c54001c8c49d3c1fd9a8e4a19e449757c21f"), looks := true }, kinds := [], alts := [], laidByText := true, laidKinds := [.data, .data, .wider, .wider, .data], laidTests := true, laidLooks := .later }
def ImageMakesUptoCardSaid : Prop := Claim7.holds Tryz.pinned (.plain (OpenSpec.upto imageMakesSpec)) imageMakesUptoCard

/-- THE SECOND FORM's CARD OF 'platenlaw19.ImageReads'. -/
def imageReadsUptoCard : Claim7 := { stood := { row := imageReadsUptoRow, standIns := [], harness := (true, "9a6f186c4be09d24d2185c6d9a39c54001c8c49d3c1fd9a8e4a19e449757c21f"), looks := true }, kinds := [], alts := [], laidByText := true, laidKinds := [.data, .data, .wider, .wider, .data], laidTests := true, laidLooks := .later }
def ImageReadsUptoCardSaid : Prop := Claim7.holds Tryz.pinned (.plain (OpenSpec.upto imageReadsSpec)) imageReadsUptoCard
end Rows
end Go.Proofs.YthgilhebnlglkaaGreatDoor
