/-
  DERIVED. GIVEN WITH THE SEED: THE CARDS: each row of YtlanibgeafdefaaGreatDoorRows.lean that lists a variable, with what it lists TIED to the program's text (the seventh form; the later family's looks); each row that meets fmt, with fmt's text TOLD by the authors' own Lean function (tested against real Go, not proved from fmt's source: count such statements apart). THE CARD IS WHAT COUNTS. Prove the row's statement (the work); the ties are given (YtlanibgeafdefaaGreatDoorTie.lean); close each card by the builder's one call (the guide's Derived/Test/ToyasCard.lean, 'card_holds'). Laid BY PROGRAM, IN A SANDBOX (cutbox-door.mjs). By AI agents, Wed Nov 11 2026. No macro, syntax, notation, axiom, sorry.
-/
import Derived.Test.YtlanibgeafdefaaGreatDoorRows
import GoSem.ClaimSeven
namespace Go.Proofs.YtlanibgeafdefaaGreatDoor
namespace Rows

/-- THE TIED CARD OF 'platenlaw14.SplitKinds'. -/
def splitKindsCard : Claim7 := { stood := { row := splitKindsRow, standIns := [], harness := (true, "a58c346e81153fa5f9a03f719b1ff7de4c094f0b7d8ca689c25b9163f26c44a3"), looks := false }, kinds := [], alts := [], laidByText := true, laidKinds := [.data, .wider, .wider], laidTests := true, laidLooks := .later }
def SplitKindsCardSaid : Prop := Claim7.holds Tryz.pinned (.plain (OpenSpec.ofChange splitKindsSpec)) splitKindsCard

/-- THE TIED CARD OF 'platenlaw14.SplitParts'. -/
def splitPartsCard : Claim7 := { stood := { row := splitPartsRow, standIns := [], harness := (true, "a58c346e81153fa5f9a03f719b1ff7de4c094f0b7d8ca689c25b9163f26c44a3"), looks := false }, kinds := [], alts := [], laidByText := true, laidKinds := [.data, .wider, .wider], laidTests := true, laidLooks := .later }
def SplitPartsCardSaid : Prop := Claim7.holds Tryz.pinned (.plain (OpenSpec.ofChange splitPartsSpec)) splitPartsCard

/-- THE TIED CARD OF 'platenlaw14.SplitAll'. -/
def splitAllCard : Claim7 := { stood := { row := splitAllRow, standIns := [], harness := (true, "a58c346e81153fa5f9a03f719b1ff7de4c094f0b7d8ca689c25b9163f26c44a3"), looks := false }, kinds := [], alts := [], laidByText := true, laidKinds := [.data, .wider, .wider], laidTests := true, laidLooks := .later }
def SplitAllCardSaid : Prop := Claim7.holds Tryz.pinned (.plain (OpenSpec.ofChange splitAllSpec)) splitAllCard

/-- THE SECOND FORM's CARD OF 'platenlaw14.SplitKinds'. -/
def splitKindsUptoCard : Claim7 := { stood := { row := splitKindsUptoRow, standIns := [], harness := (true, "a58c346e81153fa5f9a03f719b1ff7de4c094f0b7d8ca689c25b9163f26c44a3"), looks := false }, kinds := [], alts := [], laidByText := true, laidKinds := [.data, .wider, .wider], laidTests := true, laidLooks := .later }
def SplitKindsUptoCardSaid : Prop := Claim7.holds Tryz.pinned (.plain (OpenSpec.upto splitKindsSpec)) splitKindsUptoCard

/-- THE SECOND FORM's CARD OF 'platenlaw14.SplitParts'. -/
def splitPartsUptoCard : Claim7 := { stood := { row := splitPartsUptoRow, standIns := [], harness := (true, "a58c346e81153fa5f9a03f719b1ff7de4c094f0b7d8ca689c25b9163f26c44a3"), looks := false }, kinds := [], alts := [], laidByText := true, laidKinds := [.data, .wider, .wider], laidTests := true, laidLooks := .later }
def SplitPartsUptoCardSaid : Prop := Claim7.holds Tryz.pinned (.plain (OpenSpec.upto splitPartsSpec)) splitPartsUptoCard

/-- THE SECOND FORM's CARD OF 'platenlaw14.SplitAll'. -/
def splitAllUptoCard : Claim7 := { stood := { row := splitAllUptoRow, standIns := [], harness := (true, "a58c346e81153fa5f9a03f719b1ff7de4c094f0b7d8ca689c25b9163f26c44a3"), looks := false }, kinds := [], alts := [], laidByText := true, laidKinds := [.data, .wider, .wider], laidTests := true, laidLooks := .later }
def SplitAllUptoCardSaid : Prop := Claim7.holds Tryz.pinned (.plain (OpenSpec.upto splitAllSpec)) splitAllUptoCard
end Rows
end Go.Proofs.YtlanibgeafdefaaGreatDoor
