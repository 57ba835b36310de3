/-
  NARROWER THAN 'FOR EVERY INPUT', by the rows' own cells (each row's printed sentence says how): RunsTell: laid · RunsBack: laid · RunsCounts: laid.
  DERIVED. THE GIVEN ROWS OF THIS SEAT. 3 by the template 'for every input the law returns true; each argument reads behind the call as it read before'; 0 by the template 'total and deterministic' (their statements: YtogbohompffcbaaDoorTotals.lean).
  GIVEN WITH THE SEED: the statements are not yours to turn. If you find one false, say at which input.
  Laid BY PROGRAM, IN A SANDBOX (cutbox-rows.mjs): the forced cells as the released guide's own fill.sh prints them over the translation 2d6dd34021efb5ff… (all of the seat's roots in one cut). By AI agents, Wed Nov 11 2026. No macro, syntax, notation, axiom, sorry.
-/
import Derived.Test.YtogbohompffcbaaDoorChecked
import GoSem.Claim
import GoSem.ClaimJoined
import GoSem.ClaimMapViews
import Derived.JoinedTies
import Derived.KernelRfl
namespace Go.Proofs.YtogbohompffcbaaDoor
/- THE CELL 'sum', in the pinned program and in every row, IS THE sha256 OF THE DUMP (.gsa) THAT YtogbohompffcbaaDoorProg.lean LOADS. Nothing in Lean hashes anything: it is a label: what it is worth is what the hold of that sum in a sandbox is worth. -/
noncomputable def Tryd.pinned : Pinned := { name := "ytogbohompffcbaadoor", sum := "2d6dd34021efb5ffb0b84c357f926157044ff63a1dd8d0f642401e161ee37568", checked := Tryd.checked }
namespace Rows
def none {H : Type} : Left H := { results := [], args := [] }

/- WHAT THE LISTED PACKAGE-LEVEL VARIABLES READ AS WHEN THE CALL BEGINS. Each datum BY PROGRAM (the guide's laid-datum.mjs) off the statement by which the dump's own 'gosem.cut.vars' lays the variable. In a bare row this is a premise. The card (YtogbohompffcbaaDoorCards.lean) ties it to the program's text. -/
def laid_platen_runs_says {H : Type} : DataW H := .agg [.agg [.lit (.int .i64 1), .lit (.int .i64 0)], .agg [.lit (.int .i64 1), .lit (.int .i64 0)], .agg [.lit (.int .i64 1), .lit (.int .i64 0)], .agg [.lit (.int .i64 1), .lit (.int .i64 0)], .agg [.lit (.int .i64 1), .lit (.int .i64 0)], .agg [.lit (.int .i64 1), .lit (.int .i64 0)], .agg [.lit (.int .i64 1), .lit (.int .i64 0)], .agg [.lit (.int .i64 1), .lit (.int .i64 0)], .agg [.lit (.int .i64 1), .lit (.int .i64 0)], .agg [.lit (.int .i64 1), .lit (.int .i64 0)], .agg [.lit (.int .i64 1), .lit (.int .i64 0)], .agg [.lit (.int .i64 1), .lit (.int .i64 0)], .agg [.lit (.int .i64 1), .lit (.int .i64 0)], .agg [.lit (.int .i64 1), .lit (.int .i64 0)], .agg [.lit (.int .i64 1), .lit (.int .i64 0)], .agg [.lit (.int .i64 1), .lit (.int .i64 0)], .agg [.lit (.int .i64 3), .lit (.int .i64 2)], .agg [.lit (.int .i64 3), .lit (.int .i64 3)], .agg [.lit (.int .i64 11), .lit (.int .i64 7)]]

/-- 'platenlaw12.RunsTell': WHATEVER THE INPUT: true; the input reads as it did. -/
def runsTellSpec : ChangeSpec := { name := "runsTell", fn := fun _ => fun
  | [d1, d2, d3] => { results := [.lit (.bool true)], args := [d1, d2, d3] }
  | _ => none }
def runsTellRow : OpenClaim := { program := "ytogbohompffcbaadoor", sum := "2d6dd34021efb5ffb0b84c357f926157044ff63a1dd8d0f642401e161ee37568", func := "platen/platenlaw12.RunsTell", spec := "runsTell", unfollowed := true, recurses := true, named := ["platen/runs.says"], apart := false, laid := [("platen/runs.says", laid_platen_runs_says)] }
def RunsTellSaid : Prop := runsTellRow.holds Tryd.pinned (OpenSpec.ofChange runsTellSpec)

/-- ITS FALSE NEIGHBOUR: 'it returns false'. Refute it at one input. -/
def runsTellWrong : ChangeSpec := { name := "runsTell", fn := fun _ => fun
  | [d1, d2, d3] => { results := [.lit (.bool false)], args := [d1, d2, d3] }
  | _ => none }
def RunsTellWrongFalsely : Prop := runsTellRow.holds Tryd.pinned (OpenSpec.ofChange runsTellWrong)

/-- 'platenlaw12.RunsBack': WHATEVER THE INPUT: true; the input reads as it did. -/
def runsBackSpec : ChangeSpec := { name := "runsBack", fn := fun _ => fun
  | [d1, d2] => { results := [.lit (.bool true)], args := [d1, d2] }
  | _ => none }
def runsBackRow : OpenClaim := { program := "ytogbohompffcbaadoor", sum := "2d6dd34021efb5ffb0b84c357f926157044ff63a1dd8d0f642401e161ee37568", func := "platen/platenlaw12.RunsBack", spec := "runsBack", unfollowed := true, recurses := true, named := ["platen/runs.says"], apart := false, laid := [("platen/runs.says", laid_platen_runs_says)] }
def RunsBackSaid : Prop := runsBackRow.holds Tryd.pinned (OpenSpec.ofChange runsBackSpec)

/-- ITS FALSE NEIGHBOUR: 'it returns false'. Refute it at one input. -/
def runsBackWrong : ChangeSpec := { name := "runsBack", fn := fun _ => fun
  | [d1, d2] => { results := [.lit (.bool false)], args := [d1, d2] }
  | _ => none }
def RunsBackWrongFalsely : Prop := runsBackRow.holds Tryd.pinned (OpenSpec.ofChange runsBackWrong)

/-- 'platenlaw12.RunsCounts': WHATEVER THE INPUT: true; the input reads as it did. -/
def runsCountsSpec : ChangeSpec := { name := "runsCounts", fn := fun _ => fun
  | [d1, d2] => { results := [.lit (.bool true)], args := [d1, d2] }
  | _ => none }
def runsCountsRow : OpenClaim := { program := "ytogbohompffcbaadoor", sum := "2d6dd34021efb5ffb0b84c357f926157044ff63a1dd8d0f642401e161ee37568", func := "platen/platenlaw12.RunsCounts", spec := "runsCounts", unfollowed := true, recurses := true, named := ["platen/runs.says"], apart := false, laid := [("platen/runs.says", laid_platen_runs_says)] }
def RunsCountsSaid : Prop := runsCountsRow.holds Tryd.pinned (OpenSpec.ofChange runsCountsSpec)

/-- ITS FALSE NEIGHBOUR: 'it returns false'. Refute it at one input. -/
def runsCountsWrong : ChangeSpec := { name := "runsCounts", fn := fun _ => fun
  | [d1, d2] => { results := [.lit (.bool false)], args := [d1, d2] }
  | _ => none }
def RunsCountsWrongFalsely : Prop := runsCountsRow.holds Tryd.pinned (OpenSpec.ofChange runsCountsWrong)

/- THE SECOND FORM. 'bulk': how many values and letters a reading holds, each counted each time it is reached (what is shared counts as often as it is met; a slice's spare places count too). A statement '..UptoSaid' is the law's where the arguments, and the package variables that the reading takes, are together of bulk at most 1048576: NARROWER than '..Said'. Prove '..Said' where nothing that the law and all that it calls make is longer than what came in: it says more and counts as full. Else prove '..UptoSaid'. A law counts once. -/
mutual
def uptoBulk {H : Type} : DataW H → Nat
  | .lit (.string bytes) => bytes.length + 1
  | .lit _ => 1
  | .nil => 1
  | .ptr d => uptoBulk d + 1
  | .slice elems spare => uptoBulkAll elems + uptoBulkAll spare + 1
  | .agg parts => uptoBulkAll parts + 1
  | .iface _ d => uptoBulk d + 1
  | .map entries => uptoBulkEntries entries + 1
  | .held _ => 1
def uptoBulkAll {H : Type} : List (DataW H) → Nat
  | [] => 0
  | d :: r => uptoBulk d + uptoBulkAll r
def uptoBulkEntries {H : Type} : List (Lit × DataW H) → Nat
  | [] => 0
  | x :: r => uptoBulkEntry x + uptoBulkEntries r
def uptoBulkEntry {H : Type} : Lit × DataW H → Nat
  | (.string bytes, d) => bytes.length + uptoBulk d + 1
  | (_, d) => uptoBulk d + 1
 end
def uptoSmall : (H : Type) → List (DataW H) → Bool := fun _ ds => decide (uptoBulkAll ds ≤ 1048576)
def OpenSpec.upto (s : _root_.Go.ChangeSpec) : _root_.Go.OpenSpec := { _root_.Go.OpenSpec.ofChange s with cond := some uptoSmall }

/-- 'platenlaw12.RunsTell', WHERE WHAT IT READS IS OF BULK AT MOST 1048576: true; the input reads as it did. -/
def runsTellUptoRow : OpenClaim := { program := "ytogbohompffcbaadoor", sum := "2d6dd34021efb5ffb0b84c357f926157044ff63a1dd8d0f642401e161ee37568", func := "platen/platenlaw12.RunsTell", spec := "runsTell", unfollowed := true, recurses := true, named := ["platen/runs.says"], apart := false, laid := [("platen/runs.says", laid_platen_runs_says)], narrowed := true }
def RunsTellUptoSaid : Prop := runsTellUptoRow.holds Tryd.pinned (OpenSpec.upto runsTellSpec)

/-- 'platenlaw12.RunsBack', WHERE WHAT IT READS IS OF BULK AT MOST 1048576: true; the input reads as it did. -/
def runsBackUptoRow : OpenClaim := { program := "ytogbohompffcbaadoor", sum := "2d6dd34021efb5ffb0b84c357f926157044ff63a1dd8d0f642401e161ee37568", func := "platen/platenlaw12.RunsBack", spec := "runsBack", unfollowed := true, recurses := true, named := ["platen/runs.says"], apart := false, laid := [("platen/runs.says", laid_platen_runs_says)], narrowed := true }
def RunsBackUptoSaid : Prop := runsBackUptoRow.holds Tryd.pinned (OpenSpec.upto runsBackSpec)

/-- 'platenlaw12.RunsCounts', WHERE WHAT IT READS IS OF BULK AT MOST 1048576: true; the input reads as it did. -/
def runsCountsUptoRow : OpenClaim := { program := "ytogbohompffcbaadoor", sum := "2d6dd34021efb5ffb0b84c357f926157044ff63a1dd8d0f642401e161ee37568", func := "platen/platenlaw12.RunsCounts", spec := "runsCounts", unfollowed := true, recurses := true, named := ["platen/runs.says"], apart := false, laid := [("platen/runs.says", laid_platen_runs_says)], narrowed := true }
def RunsCountsUptoSaid : Prop := runsCountsUptoRow.holds Tryd.pinned (OpenSpec.upto runsCountsSpec)

end Rows
end Go.Proofs.YtogbohompffcbaaDoor
