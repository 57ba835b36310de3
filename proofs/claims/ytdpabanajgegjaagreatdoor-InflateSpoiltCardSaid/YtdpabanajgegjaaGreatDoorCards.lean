/-
  DERIVED. GIVEN WITH THE SEED: THE CARDS: each row of YtdpabanajgegjaaGreatDoorRows.lean that lists a variable, with what it lists TIED to the program's text (the seventh form; the later family's looks); each row that meets fmt, with fmt's text TOLD by the authors' own Lean function (tested against real Go, not proved from fmt's source: count such statements apart). THE CARD IS WHAT COUNTS. Prove the row's statement (the work); the ties are given (YtdpabanajgegjaaGreatDoorTie.lean); close each card by the builder's one call (the guide's Derived/Test/ToyasCard.lean, 'card_holds'). Laid BY PROGRAM, IN A SANDBOX (cutbox-door.mjs). By AI agents, Wed Nov 11 2026. No macro, syntax, notation, axiom, sorry.
-/
import Derived.Test.YtdpabanajgegjaaGreatDoorRows
import GoSem.ClaimSeven
namespace Go.Proofs.YtdpabanajgegjaaGreatDoor
namespace Rows

/-- THE TIED CARD OF 'platenlaw16.InflateSpoilt'. -/
def inflateSpoiltCard : Claim7 := { stood := { row := inflateSpoiltRow, standIns := [], harness := (true, "424606bde2fbe1316814c524971fd09984cd3776aa96b323a155b2c27a1da6f0"), looks := true }, kinds := [], alts := [], laidByText := true, laidKinds := [.data, .wider, .wider], laidTests := true, laidLooks := .later }
def InflateSpoiltCardSaid : Prop := Claim7.holds Tryz.pinned (.plain (OpenSpec.ofChange inflateSpoiltSpec)) inflateSpoiltCard

/-- THE TIED CARD OF 'platenlaw17.ZlibReads'. -/
def zlibReadsCard : Claim7 := { stood := { row := zlibReadsRow, standIns := [], harness := (true, "424606bde2fbe1316814c524971fd09984cd3776aa96b323a155b2c27a1da6f0"), looks := true }, kinds := [], alts := [], laidByText := true, laidKinds := [.data, .data, .wider, .wider, .data], laidTests := true, laidLooks := .later }
def ZlibReadsCardSaid : Prop := Claim7.holds Tryz.pinned (.plain (OpenSpec.ofChange zlibReadsSpec)) zlibReadsCard

/-- THE TIED CARD OF 'platenlaw17.ZlibSpoilt'. -/
def zlibSpoiltCard : Claim7 := { stood := { row := zlibSpoiltRow, standIns := [], harness := (true, "424606bde2fbe1316814c524971fd09984cd3776aa96b323a155b2c27a1da6f0"), looks := true }, kinds := [], alts := [], laidByText := true, laidKinds := [.data, .data, .wider, .wider, .data], laidTests := true, laidLooks := .later }
def ZlibSpoiltCardSaid : Prop := Claim7.holds Tryz.pinned (.plain (OpenSpec.ofChange zlibSpoiltSpec)) zlibSpoiltCard

/-- THE TIED CARD OF 'platenlaw17.ZlibBack'. -/
def zlibBackCard : Claim7 := { stood := { row := zlibBackRow, standIns := [], harness := (true, "424606bde2fbe1316814c524971fd09984cd3776aa96b323a155b2c27a1da6f0"), looks := true }, kinds := [], alts := [], laidByText := true, laidKinds := [.data, .data, .wider, .wider, .data], laidTests := true, laidLooks := .later }
def ZlibBackCardSaid : Prop := Claim7.holds Tryz.pinned (.plain (OpenSpec.ofChange zlibBackSpec)) zlibBackCard

/-- THE SECOND FORM's CARD OF 'platenlaw16.InflateSpoilt'. -/
def inflateSpoiltUptoCard : Claim7 := { stood := { row := inflateSpoiltUptoRow, standIns := [], harness := (true, "424606bde2fbe1316814c524971fd09984cd3776aa96b323a155b2c27a1da6f0"), looks := true }, kinds := [], alts := [], laidByText := true, laidKinds := [.data, .wider, .wider], laidTests := true, laidLooks := .later }
def InflateSpoiltUptoCardSaid : Prop := Claim7.holds Tryz.pinned (.plain (OpenSpec.upto inflateSpoiltSpec)) inflateSpoiltUptoCard

/-- THE SECOND FORM's CARD OF 'platenlaw17.ZlibReads'. -/
def zlibReadsUptoCard : Claim7 := { stood := { row := zlibReadsUptoRow, standIns := [], harness := (true, "424606bde2fbe1316814c524971fd09984cd3776aa96b323a155b2c27a1da6f0"), looks := true }, kinds := [], alts := [], laidByText := true, laidKinds := [.data, .data, .wider, .wider, .data], laidTests := true, laidLooks := .later }
def ZlibReadsUptoCardSaid : Prop := Claim7.holds Tryz.pinned (.plain (OpenSpec.upto zlibReadsSpec)) zlibReadsUptoCard

/-- THE SECOND FORM's CARD OF 'platenlaw17.ZlibSpoilt'. -/
def zlibSpoiltUptoCard : Claim7 := { stood := { row := zlibSpoiltUptoRow, standIns := [], harness := (true, "424606bde2fbe1316814c524971fd09984cd3776aa96b323a155b2c27a1da6f0"), looks := true }, kinds := [], alts := [], laidByText := true, laidKinds := [.data, .data, .wider, .wider, .data], laidTests := true, laidLooks := .later }
def ZlibSpoiltUptoCardSaid : Prop := Claim7.holds Tryz.pinned (.plain (OpenSpec.upto zlibSpoiltSpec)) zlibSpoiltUptoCard

/-- THE SECOND FORM's CARD OF 'platenlaw17.ZlibBack'. -/
def zlibBackUptoCard : Claim7 := { stood := { row := zlibBackUptoRow, standIns := [], harness := (true, "424606bde2fbe1316814c524971fd09984cd3776aa96b323a155b2c27a1da6f0"), looks := true }, kinds := [], alts := [], laidByText := true, laidKinds := [.data, .data, .wider, .wider, .data], laidTests := true, laidLooks := .later }
def ZlibBackUptoCardSaid : Prop := Claim7.holds Tryz.pinned (.plain (OpenSpec.upto zlibBackSpec)) zlibBackUptoCard
end Rows
end Go.Proofs.YtdpabanajgegjaaGreatDoor
