/-
  DERIVED. GIVEN WITH THE SEED: THE CARDS: each row of YtkegkfmikplgdaaDoorRows.lean that lists a variable, with what it lists TIED to the program's text (the seventh form; the later family's looks); each row that meets fmt, with fmt's text TOLD by the authors' own Lean function (tested against real Go, not proved from fmt's source: count such statements apart). THE CARD IS WHAT COUNTS. Prove the row's statement (the work); the ties are given (YtkegkfmikplgdaaDoorTie.lean); close each card by the builder's one call (the guide's Derived/Test/ToyasCard.lean, 'card_holds'). Laid BY PROGRAM, IN A SANDBOX (cutbox-door.mjs). By AI agents, Wed Nov 11 2026. No macro, syntax, notation, axiom, sorry.
-/
import Derived.Test.YtkegkfmikplgdaaDoorRows
import GoSem.ClaimSeven
namespace Go.Proofs.YtkegkfmikplgdaaDoor
namespace Rows

/-- THE TIED CARD OF 'platenlaw13.BlockCodes'. -/
def blockCodesCard : Claim7 := { stood := { row := blockCodesRow, standIns := [], harness := (true, "c69d1d023362ea321e9b83c03b726c60cf397fc440850b7b1b50b6939c1eae4e"), looks := false }, kinds := [], alts := [], laidByText := true, laidKinds := [.data, .wider, .wider], laidTests := true, laidLooks := .later }
def BlockCodesCardSaid : Prop := Claim7.holds Tryd.pinned (.plain (OpenSpec.ofChange blockCodesSpec)) blockCodesCard

/-- THE TIED CARD OF 'platenlaw13.BlockBest'. -/
def blockBestCard : Claim7 := { stood := { row := blockBestRow, standIns := [], harness := (true, "c69d1d023362ea321e9b83c03b726c60cf397fc440850b7b1b50b6939c1eae4e"), looks := false }, kinds := [], alts := [], laidByText := true, laidKinds := [.data, .wider, .wider], laidTests := true, laidLooks := .later }
def BlockBestCardSaid : Prop := Claim7.holds Tryd.pinned (.plain (OpenSpec.ofChange blockBestSpec)) blockBestCard

/-- THE TIED CARD OF 'platenlaw13.BlockWhere'. -/
def blockWhereCard : Claim7 := { stood := { row := blockWhereRow, standIns := [], harness := (true, "c69d1d023362ea321e9b83c03b726c60cf397fc440850b7b1b50b6939c1eae4e"), looks := false }, kinds := [], alts := [], laidByText := true, laidKinds := [.data, .wider, .wider], laidTests := true, laidLooks := .later }
def BlockWhereCardSaid : Prop := Claim7.holds Tryd.pinned (.plain (OpenSpec.ofChange blockWhereSpec)) blockWhereCard

/-- THE SECOND FORM's CARD OF 'platenlaw13.BlockCodes'. -/
def blockCodesUptoCard : Claim7 := { stood := { row := blockCodesUptoRow, standIns := [], harness := (true, "c69d1d023362ea321e9b83c03b726c60cf397fc440850b7b1b50b6939c1eae4e"), looks := false }, kinds := [], alts := [], laidByText := true, laidKinds := [.data, .wider, .wider], laidTests := true, laidLooks := .later }
def BlockCodesUptoCardSaid : Prop := Claim7.holds Tryd.pinned (.plain (OpenSpec.upto blockCodesSpec)) blockCodesUptoCard

/-- THE SECOND FORM's CARD OF 'platenlaw13.BlockBest'. -/
def blockBestUptoCard : Claim7 := { stood := { row := blockBestUptoRow, standIns := [], harness := (true, "c69d1d023362ea321e9b83c03b726c60cf397fc440850b7b1b50b6939c1eae4e"), looks := false }, kinds := [], alts := [], laidByText := true, laidKinds := [.data, .wider, .wider], laidTests := true, laidLooks := .later }
def BlockBestUptoCardSaid : Prop := Claim7.holds Tryd.pinned (.plain (OpenSpec.upto blockBestSpec)) blockBestUptoCard

/-- THE SECOND FORM's CARD OF 'platenlaw13.BlockWhere'. -/
def blockWhereUptoCard : Claim7 := { stood := { row := blockWhereUptoRow, standIns := [], harness := (true, "c69d1d023362ea321e9b83c03b726c60cf397fc440850b7b1b50b6939c1eae4e"), looks := false }, kinds := [], alts := [], laidByText := true, laidKinds := [.data, .wider, .wider], laidTests := true, laidLooks := .later }
def BlockWhereUptoCardSaid : Prop := Claim7.holds Tryd.pinned (.plain (OpenSpec.upto blockWhereSpec)) blockWhereUptoCard
end Rows
end Go.Proofs.YtkegkfmikplgdaaDoor
