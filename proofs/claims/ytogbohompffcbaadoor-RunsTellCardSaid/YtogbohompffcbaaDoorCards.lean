/-
  DERIVED. GIVEN WITH THE SEED: THE CARDS: each row of YtogbohompffcbaaDoorRows.lean that lists a variable, with what it lists TIED to the program's text (the seventh form; the later family's looks); each row that meets fmt, with fmt's text TOLD by the authors' own Lean function (tested against real Go, not proved from fmt's source: count such statements apart). THE CARD IS WHAT COUNTS. Prove the row's statement (the work); the ties are given (YtogbohompffcbaaDoorTie.lean); close each card by the builder's one call (the guide's Derived/Test/ToyasCard.lean, 'card_holds'). Laid BY PROGRAM, IN A SANDBOX (cutbox-door.mjs). By AI agents, Wed Nov 11 2026. No macro, syntax, notation, axiom, sorry.
-/
import Derived.Test.YtogbohompffcbaaDoorRows
import GoSem.ClaimSeven
namespace Go.Proofs.YtogbohompffcbaaDoor
namespace Rows

/-- THE TIED CARD OF 'platenlaw12.RunsTell'. -/
def runsTellCard : Claim7 := { stood := { row := runsTellRow, standIns := [], harness := (true, "7ed63540b5fd702eed639b2b2531c61e5f78aec58bde3cd6b84a1967b60a01a3"), looks := false }, kinds := [], alts := [], laidByText := true, laidKinds := [.data], laidTests := true, laidLooks := .later }
def RunsTellCardSaid : Prop := Claim7.holds Tryd.pinned (.plain (OpenSpec.ofChange runsTellSpec)) runsTellCard

/-- THE TIED CARD OF 'platenlaw12.RunsBack'. -/
def runsBackCard : Claim7 := { stood := { row := runsBackRow, standIns := [], harness := (true, "7ed63540b5fd702eed639b2b2531c61e5f78aec58bde3cd6b84a1967b60a01a3"), looks := false }, kinds := [], alts := [], laidByText := true, laidKinds := [.data], laidTests := true, laidLooks := .later }
def RunsBackCardSaid : Prop := Claim7.holds Tryd.pinned (.plain (OpenSpec.ofChange runsBackSpec)) runsBackCard

/-- THE TIED CARD OF 'platenlaw12.RunsCounts'. -/
def runsCountsCard : Claim7 := { stood := { row := runsCountsRow, standIns := [], harness := (true, "7ed63540b5fd702eed639b2b2531c61e5f78aec58bde3cd6b84a1967b60a01a3"), looks := false }, kinds := [], alts := [], laidByText := true, laidKinds := [.data], laidTests := true, laidLooks := .later }
def RunsCountsCardSaid : Prop := Claim7.holds Tryd.pinned (.plain (OpenSpec.ofChange runsCountsSpec)) runsCountsCard

/-- THE SECOND FORM's CARD OF 'platenlaw12.RunsTell'. -/
def runsTellUptoCard : Claim7 := { stood := { row := runsTellUptoRow, standIns := [], harness := (true, "7ed63540b5fd702eed639b2b2531c61e5f78aec58bde3cd6b84a1967b60a01a3"), looks := false }, kinds := [], alts := [], laidByText := true, laidKinds := [.data], laidTests := true, laidLooks := .later }
def RunsTellUptoCardSaid : Prop := Claim7.holds Tryd.pinned (.plain (OpenSpec.upto runsTellSpec)) runsTellUptoCard

/-- THE SECOND FORM's CARD OF 'platenlaw12.RunsBack'. -/
def runsBackUptoCard : Claim7 := { stood := { row := runsBackUptoRow, standIns := [], harness := (true, "7ed63540b5fd702eed639b2b2531c61e5f78aec58bde3cd6b84a1967b60a01a3"), looks := false }, kinds := [], alts := [], laidByText := true, laidKinds := [.data], laidTests := true, laidLooks := .later }
def RunsBackUptoCardSaid : Prop := Claim7.holds Tryd.pinned (.plain (OpenSpec.upto runsBackSpec)) runsBackUptoCard

/-- THE SECOND FORM's CARD OF 'platenlaw12.RunsCounts'. -/
def runsCountsUptoCard : Claim7 := { stood := { row := runsCountsUptoRow, standIns := [], harness := (true, "7ed63540b5fd702eed639b2b2531c61e5f78aec58bde3cd6b84a1967b60a01a3"), looks := false }, kinds := [], alts := [], laidByText := true, laidKinds := [.data], laidTests := true, laidLooks := .later }
def RunsCountsUptoCardSaid : Prop := Claim7.holds Tryd.pinned (.plain (OpenSpec.upto runsCountsSpec)) runsCountsUptoCard
end Rows
end Go.Proofs.YtogbohompffcbaaDoor
