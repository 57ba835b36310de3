/-
  DERIVED. GIVEN WITH THE SEED: THE CARDS: each row of YtacelhaidcmbcaaGreatDoorRows.lean that lists a variable, with what it lists TIED to the program's text (the seventh form; the later family's looks); each row that meets fmt, with fmt's text TOLD by the authors' own Lean function (tested against real Go, not proved from fmt's source: count such statements apart). THE CARD IS WHAT COUNTS. Prove the row's statement (the work); the ties are given (YtacelhaidcmbcaaGreatDoorTie.lean); close each card by the builder's one call (the guide's Derived/Test/ToyasCard.lean, 'card_holds'). Laid BY PROGRAM, IN A SANDBOX (cutbox-door.mjs). By AI agents, Wed Nov 11 2026. No macro, syntax, notation, axiom, sorry.
-/
import Derived.Test.YtacelhaidcmbcaaGreatDoorRows
import GoSem.ClaimSeven
namespace Go.Proofs.YtacelhaidcmbcaaGreatDoor
namespace Rows

/-- THE TIED CARD OF 'platenlaw15.DeflateTells'. -/
def deflateTellsCard : Claim7 := { stood := { row := deflateTellsRow, standIns := [], harness := (true, "e2380b18ea86af2cf8bc9a6bd693499bdafbc9df9bac323cb19502a9ba91a2f0"), looks := true }, kinds := [], alts := [], laidByText := true, laidKinds := [.data, .data, .wider, .wider], laidTests := true, laidLooks := .later }
def DeflateTellsCardSaid : Prop := Claim7.holds Tryz.pinned (.plain (OpenSpec.ofChange deflateTellsSpec)) deflateTellsCard

/-- THE SECOND FORM's CARD OF 'platenlaw15.DeflateTells'. -/
def deflateTellsUptoCard : Claim7 := { stood := { row := deflateTellsUptoRow, standIns := [], harness := (true, "e2380b18ea86af2cf8bc9a6bd693499bdafbc9df9bac323cb19502a9ba91a2f0"), looks := true }, kinds := [], alts := [], laidByText := true, laidKinds := [.data, .data, .wider, .wider], laidTests := true, laidLooks := .later }
def DeflateTellsUptoCardSaid : Prop := Claim7.holds Tryz.pinned (.plain (OpenSpec.upto deflateTellsSpec)) deflateTellsUptoCard
end Rows
end Go.Proofs.YtacelhaidcmbcaaGreatDoor
