/-
  DERIVED. GIVEN WITH THE SEED: THE CARDS: each row of YtfochecpdfmfbaaGreatDoorRows.lean that lists a variable, with what it lists TIED to the program's text (the seventh form; the later family's looks); each row that meets fmt, with fmt's text TOLD by the authors' own Lean function (tested against real Go, not proved from fmt's source: count such statements apart). THE CARD IS WHAT COUNTS. Prove the row's statement (the work); the ties are given (YtfochecpdfmfbaaGreatDoorTie.lean); close each card by the builder's one call (the guide's Derived/Test/ToyasCard.lean, 'card_holds'). Laid BY PROGRAM, IN A SANDBOX (cutbox-door.mjs). By AI agents, Wed Nov 11 2026. No macro, syntax, notation, axiom, sorry.
-/
import Derived.Test.YtfochecpdfmfbaaGreatDoorRows
import GoSem.ClaimSeven
namespace Go.Proofs.YtfochecpdfmfbaaGreatDoor
namespace Rows

/-- THE TIED CARD OF 'platenlaw13.BlockWrites'. -/
def blockWritesCard : Claim7 := { stood := { row := blockWritesRow, standIns := [], harness := (true, "32eeb8e023a5668e41fee16d9ae17a75f6bab4e198bc73692c71270e79a577d1"), looks := false }, kinds := [], alts := [], laidByText := true, laidKinds := [.data, .wider, .wider], laidTests := true, laidLooks := .later }
def BlockWritesCardSaid : Prop := Claim7.holds Tryz.pinned (.plain (OpenSpec.ofChange blockWritesSpec)) blockWritesCard

/-- THE TIED CARD OF 'platenlaw13.BlockStored'. -/
def blockStoredCard : Claim7 := { stood := { row := blockStoredRow, standIns := [], harness := (true, "32eeb8e023a5668e41fee16d9ae17a75f6bab4e198bc73692c71270e79a577d1"), looks := false }, kinds := [], alts := [], laidByText := true, laidKinds := [.data, .wider, .wider], laidTests := true, laidLooks := .later }
def BlockStoredCardSaid : Prop := Claim7.holds Tryz.pinned (.plain (OpenSpec.ofChange blockStoredSpec)) blockStoredCard

/-- THE TIED CARD OF 'platenlaw13.BlockRoom'. -/
def blockRoomCard : Claim7 := { stood := { row := blockRoomRow, standIns := [], harness := (true, "32eeb8e023a5668e41fee16d9ae17a75f6bab4e198bc73692c71270e79a577d1"), looks := false }, kinds := [], alts := [], laidByText := true, laidKinds := [.data, .wider, .wider], laidTests := true, laidLooks := .later }
def BlockRoomCardSaid : Prop := Claim7.holds Tryz.pinned (.plain (OpenSpec.ofChange blockRoomSpec)) blockRoomCard

/-- THE SECOND FORM's CARD OF 'platenlaw13.BlockWrites'. -/
def blockWritesUptoCard : Claim7 := { stood := { row := blockWritesUptoRow, standIns := [], harness := (true, "32eeb8e023a5668e41fee16d9ae17a75f6bab4e198bc73692c71270e79a577d1"), looks := false }, kinds := [], alts := [], laidByText := true, laidKinds := [.data, .wider, .wider], laidTests := true, laidLooks := .later }
def BlockWritesUptoCardSaid : Prop := Claim7.holds Tryz.pinned (.plain (OpenSpec.upto blockWritesSpec)) blockWritesUptoCard

/-- THE SECOND FORM's CARD OF 'platenlaw13.BlockStored'. -/
def blockStoredUptoCard : Claim7 := { stood := { row := blockStoredUptoRow, standIns := [], harness := (true, "32eeb8e023a5668e41fee16d9ae17a75f6bab4e198bc73692c71270e79a577d1"), looks := false }, kinds := [], alts := [], laidByText := true, laidKinds := [.data, .wider, .wider], laidTests := true, laidLooks := .later }
def BlockStoredUptoCardSaid : Prop := Claim7.holds Tryz.pinned (.plain (OpenSpec.upto blockStoredSpec)) blockStoredUptoCard

/-- THE SECOND FORM's CARD OF 'platenlaw13.BlockRoom'. -/
def blockRoomUptoCard : Claim7 := { stood := { row := blockRoomUptoRow, standIns := [], harness := (true, "32eeb8e023a5668e41fee16d9ae17a75f6bab4e198bc73692c71270e79a577d1"), looks := false }, kinds := [], alts := [], laidByText := true, laidKinds := [.data, .wider, .wider], laidTests := true, laidLooks := .later }
def BlockRoomUptoCardSaid : Prop := Claim7.holds Tryz.pinned (.plain (OpenSpec.upto blockRoomSpec)) blockRoomUptoCard
end Rows
end Go.Proofs.YtfochecpdfmfbaaGreatDoor
