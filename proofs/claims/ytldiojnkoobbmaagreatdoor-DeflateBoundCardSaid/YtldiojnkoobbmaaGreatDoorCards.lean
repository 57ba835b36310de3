/-
  DERIVED. GIVEN WITH THE SEED: THE CARDS: each row of YtldiojnkoobbmaaGreatDoorRows.lean that lists a variable, with what it lists TIED to the program's text (the seventh form; the later family's looks); each row that meets fmt, with fmt's text TOLD by the authors' own Lean function (tested against real Go, not proved from fmt's source: count such statements apart). THE CARD IS WHAT COUNTS. Prove the row's statement (the work); the ties are given (YtldiojnkoobbmaaGreatDoorTie.lean); close each card by the builder's one call (the guide's Derived/Test/ToyasCard.lean, 'card_holds'). Laid BY PROGRAM, IN A SANDBOX (cutbox-door.mjs). By AI agents, Wed Nov 11 2026. No macro, syntax, notation, axiom, sorry.
-/
import Derived.Test.YtldiojnkoobbmaaGreatDoorRows
import GoSem.ClaimSeven
namespace Go.Proofs.YtldiojnkoobbmaaGreatDoor
namespace Rows

/-- THE TIED CARD OF 'platenlaw15.DeflateTells'. -/
def deflateTellsCard : Claim7 := { stood := { row := deflateTellsRow, standIns := [], harness := (true, "b564e438ee534525f0bb7085d67a0db68e4ee2bdb8ba9a62b8aa55dda84a8098"), looks := true }, kinds := [], alts := [], laidByText := true, laidKinds := [.data, .data, .wider, .wider], laidTests := true, laidLooks := .later }
def DeflateTellsCardSaid : Prop := Claim7.holds Tryz.pinned (.plain (OpenSpec.ofChange deflateTellsSpec)) deflateTellsCard

/-- THE TIED CARD OF 'platenlaw15.DeflateBound'. -/
def deflateBoundCard : Claim7 := { stood := { row := deflateBoundRow, standIns := [], harness := (true, "b564e438ee534525f0bb7085d67a0db68e4ee2bdb8ba9a62b8aa55dda84a8098"), looks := true }, kinds := [], alts := [], laidByText := true, laidKinds := [.data, .data, .wider, .wider], laidTests := true, laidLooks := .later }
def DeflateBoundCardSaid : Prop := Claim7.holds Tryz.pinned (.plain (OpenSpec.ofChange deflateBoundSpec)) deflateBoundCard

/-- THE TIED CARD OF 'platenlaw15.DeflateSmall'. -/
def deflateSmallCard : Claim7 := { stood := { row := deflateSmallRow, standIns := [], harness := (true, "b564e438ee534525f0bb7085d67a0db68e4ee2bdb8ba9a62b8aa55dda84a8098"), looks := true }, kinds := [], alts := [], laidByText := true, laidKinds := [.data, .data, .wider, .wider], laidTests := true, laidLooks := .later }
def DeflateSmallCardSaid : Prop := Claim7.holds Tryz.pinned (.plain (OpenSpec.ofChange deflateSmallSpec)) deflateSmallCard

/-- THE SECOND FORM's CARD OF 'platenlaw15.DeflateTells'. -/
def deflateTellsUptoCard : Claim7 := { stood := { row := deflateTellsUptoRow, standIns := [], harness := (true, "b564e438ee534525f0bb7085d67a0db68e4ee2bdb8ba9a62b8aa55dda84a8098"), looks := true }, kinds := [], alts := [], laidByText := true, laidKinds := [.data, .data, .wider, .wider], laidTests := true, laidLooks := .later }
def DeflateTellsUptoCardSaid : Prop := Claim7.holds Tryz.pinned (.plain (OpenSpec.upto deflateTellsSpec)) deflateTellsUptoCard

/-- THE SECOND FORM's CARD OF 'platenlaw15.DeflateBound'. -/
def deflateBoundUptoCard : Claim7 := { stood := { row := deflateBoundUptoRow, standIns := [], harness := (true, "b564e438ee534525f0bb7085d67a0db68e4ee2bdb8ba9a62b8aa55dda84a8098"), looks := true }, kinds := [], alts := [], laidByText := true, laidKinds := [.data, .data, .wider, .wider], laidTests := true, laidLooks := .later }
def DeflateBoundUptoCardSaid : Prop := Claim7.holds Tryz.pinned (.plain (OpenSpec.upto deflateBoundSpec)) deflateBoundUptoCard

/-- THE SECOND FORM's CARD OF 'platenlaw15.DeflateSmall'. -/
def deflateSmallUptoCard : Claim7 := { stood := { row := deflateSmallUptoRow, standIns := [], harness := (true, "b564e438ee534525f0bb7085d67a0db68e4ee2bdb8ba9a62b8aa55dda84a8098"), looks := true }, kinds := [], alts := [], laidByText := true, laidKinds := [.data, .data, .wider, .wider], laidTests := true, laidLooks := .later }
def DeflateSmallUptoCardSaid : Prop := Claim7.holds Tryz.pinned (.plain (OpenSpec.upto deflateSmallSpec)) deflateSmallUptoCard
end Rows
end Go.Proofs.YtldiojnkoobbmaaGreatDoor
