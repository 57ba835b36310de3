/-
  DERIVED. GIVEN WITH THE SEED: THE CARDS: each row of YtobcgieblidjcaaDoorRows.lean that lists a variable, with what it lists TIED to the program's text (the seventh form; the later family's looks); each row that meets fmt, with fmt's text TOLD by the authors' own Lean function (tested against real Go, not proved from fmt's source: count such statements apart). THE CARD IS WHAT COUNTS. Prove the row's statement (the work); the ties are given (YtobcgieblidjcaaDoorTie.lean); close each card by the builder's one call (the guide's Derived/Test/ToyasCard.lean, 'card_holds'). Laid BY PROGRAM, IN A SANDBOX (cutbox-door.mjs). By AI agents, Wed Nov 11 2026. No macro, syntax, notation, axiom, sorry.
-/
import Derived.Test.YtobcgieblidjcaaDoorRows
import GoSem.ClaimSeven
namespace Go.Proofs.YtobcgieblidjcaaDoor
namespace Rows

/-- THE TIED CARD OF 'platenlaw11.SymbolTells'. -/
def symbolTellsCard : Claim7 := { stood := { row := symbolTellsRow, standIns := [], harness := (true, "456adf81ddfaef589b0adf03e354d942f65202e19b95678e7e3abe822e8147f4"), looks := false }, kinds := [], alts := [], laidByText := true, laidKinds := [.wider, .wider], laidTests := true, laidLooks := .later }
def SymbolTellsCardSaid : Prop := Claim7.holds Tryd.pinned (.plain (OpenSpec.ofChange symbolTellsSpec)) symbolTellsCard

/-- THE TIED CARD OF 'platenlaw11.SymbolBack'. -/
def symbolBackCard : Claim7 := { stood := { row := symbolBackRow, standIns := [], harness := (true, "456adf81ddfaef589b0adf03e354d942f65202e19b95678e7e3abe822e8147f4"), looks := false }, kinds := [], alts := [], laidByText := true, laidKinds := [.wider, .wider], laidTests := true, laidLooks := .later }
def SymbolBackCardSaid : Prop := Claim7.holds Tryd.pinned (.plain (OpenSpec.ofChange symbolBackSpec)) symbolBackCard

/-- THE TIED CARD OF 'platenlaw11.SymbolAll'. -/
def symbolAllCard : Claim7 := { stood := { row := symbolAllRow, standIns := [], harness := (true, "456adf81ddfaef589b0adf03e354d942f65202e19b95678e7e3abe822e8147f4"), looks := false }, kinds := [], alts := [], laidByText := true, laidKinds := [.wider, .wider], laidTests := true, laidLooks := .later }
def SymbolAllCardSaid : Prop := Claim7.holds Tryd.pinned (.plain (OpenSpec.ofChange symbolAllSpec)) symbolAllCard

/-- THE SECOND FORM's CARD OF 'platenlaw11.SymbolTells'. -/
def symbolTellsUptoCard : Claim7 := { stood := { row := symbolTellsUptoRow, standIns := [], harness := (true, "456adf81ddfaef589b0adf03e354d942f65202e19b95678e7e3abe822e8147f4"), looks := false }, kinds := [], alts := [], laidByText := true, laidKinds := [.wider, .wider], laidTests := true, laidLooks := .later }
def SymbolTellsUptoCardSaid : Prop := Claim7.holds Tryd.pinned (.plain (OpenSpec.upto symbolTellsSpec)) symbolTellsUptoCard

/-- THE SECOND FORM's CARD OF 'platenlaw11.SymbolBack'. -/
def symbolBackUptoCard : Claim7 := { stood := { row := symbolBackUptoRow, standIns := [], harness := (true, "456adf81ddfaef589b0adf03e354d942f65202e19b95678e7e3abe822e8147f4"), looks := false }, kinds := [], alts := [], laidByText := true, laidKinds := [.wider, .wider], laidTests := true, laidLooks := .later }
def SymbolBackUptoCardSaid : Prop := Claim7.holds Tryd.pinned (.plain (OpenSpec.upto symbolBackSpec)) symbolBackUptoCard

/-- THE SECOND FORM's CARD OF 'platenlaw11.SymbolAll'. -/
def symbolAllUptoCard : Claim7 := { stood := { row := symbolAllUptoRow, standIns := [], harness := (true, "456adf81ddfaef589b0adf03e354d942f65202e19b95678e7e3abe822e8147f4"), looks := false }, kinds := [], alts := [], laidByText := true, laidKinds := [.wider, .wider], laidTests := true, laidLooks := .later }
def SymbolAllUptoCardSaid : Prop := Claim7.holds Tryd.pinned (.plain (OpenSpec.upto symbolAllSpec)) symbolAllUptoCard
end Rows
end Go.Proofs.YtobcgieblidjcaaDoor
