/-
  DERIVED. GIVEN WITH THE SEED: THE CARDS: each row of YtlanibgeafdefaaDoorRows.lean that lists a variable, with what it lists TIED to the program's text (the seventh form; the later family's looks); each row that meets fmt, with fmt's text TOLD by the authors' own Lean function (tested against real Go, not proved from fmt's source: count such statements apart). THE CARD IS WHAT COUNTS. Prove the row's statement (the work); the ties are given (YtlanibgeafdefaaDoorTie.lean); close each card by the builder's one call (the guide's Derived/Test/ToyasCard.lean, 'card_holds'). Laid BY PROGRAM, IN A SANDBOX (cutbox-door.mjs). By AI agents, Wed Nov 11 2026. No macro, syntax, notation, axiom, sorry.
-/
import Derived.Test.YtlanibgeafdefaaDoorRows
import GoSem.ClaimSeven
namespace Go.Proofs.YtlanibgeafdefaaDoor
namespace Rows

/-- THE TIED CARD OF 'platenlaw14.SplitFew'. -/
def splitFewCard : Claim7 := { stood := { row := splitFewRow, standIns := [], harness := (true, "037be71aa145bed32a61c957f80f245baa737e543944fbc09403c9785d5cd92b"), looks := false }, kinds := [], alts := [], laidByText := true, laidKinds := [.data, .wider, .wider], laidTests := true, laidLooks := .later }
def SplitFewCardSaid : Prop := Claim7.holds Tryd.pinned (.plain (OpenSpec.ofChange splitFewSpec)) splitFewCard

/-- THE SECOND FORM's CARD OF 'platenlaw14.SplitFew'. -/
def splitFewUptoCard : Claim7 := { stood := { row := splitFewUptoRow, standIns := [], harness := (true, "037be71aa145bed32a61c957f80f245baa737e543944fbc09403c9785d5cd92b"), looks := false }, kinds := [], alts := [], laidByText := true, laidKinds := [.data, .wider, .wider], laidTests := true, laidLooks := .later }
def SplitFewUptoCardSaid : Prop := Claim7.holds Tryd.pinned (.plain (OpenSpec.upto splitFewSpec)) splitFewUptoCard
end Rows
end Go.Proofs.YtlanibgeafdefaaDoor
