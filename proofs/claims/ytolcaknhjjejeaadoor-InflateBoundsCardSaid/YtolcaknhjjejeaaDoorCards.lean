/-
  DERIVED. GIVEN WITH THE SEED: THE CARDS: each row of YtolcaknhjjejeaaDoorRows.lean that lists a variable, with what it lists TIED to the program's text (the seventh form; the later family's looks); each row that meets fmt, with fmt's text TOLD by the authors' own Lean function (tested against real Go, not proved from fmt's source: count such statements apart). THE CARD IS WHAT COUNTS. Prove the row's statement (the work); the ties are given (YtolcaknhjjejeaaDoorTie.lean); close each card by the builder's one call (the guide's Derived/Test/ToyasCard.lean, 'card_holds'). Laid BY PROGRAM, IN A SANDBOX (cutbox-door.mjs). By AI agents, Wed Nov 11 2026. No macro, syntax, notation, axiom, sorry.
-/
import Derived.Test.YtolcaknhjjejeaaDoorRows
import GoSem.ClaimSeven
namespace Go.Proofs.YtolcaknhjjejeaaDoor
namespace Rows

/-- THE TIED CARD OF 'platenlaw16.InflateBounds'. -/
def inflateBoundsCard : Claim7 := { stood := { row := inflateBoundsRow, standIns := [], harness := (true, "8da53c175a31a684cd6c7b9bf7e9ee36c4710eae071c5df362b809f1d1203c4f"), looks := true }, kinds := [], alts := [], laidByText := true, laidKinds := [.data, .wider, .wider], laidTests := true, laidLooks := .later }
def InflateBoundsCardSaid : Prop := Claim7.holds Tryd.pinned (.plain (OpenSpec.ofChange inflateBoundsSpec)) inflateBoundsCard

/-- THE SECOND FORM's CARD OF 'platenlaw16.InflateBounds'. -/
def inflateBoundsUptoCard : Claim7 := { stood := { row := inflateBoundsUptoRow, standIns := [], harness := (true, "8da53c175a31a684cd6c7b9bf7e9ee36c4710eae071c5df362b809f1d1203c4f"), looks := true }, kinds := [], alts := [], laidByText := true, laidKinds := [.data, .wider, .wider], laidTests := true, laidLooks := .later }
def InflateBoundsUptoCardSaid : Prop := Claim7.holds Tryd.pinned (.plain (OpenSpec.upto inflateBoundsSpec)) inflateBoundsUptoCard
end Rows
end Go.Proofs.YtolcaknhjjejeaaDoor
