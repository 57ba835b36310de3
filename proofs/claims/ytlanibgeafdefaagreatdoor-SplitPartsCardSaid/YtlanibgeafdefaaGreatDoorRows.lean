/-
  NARROWER THAN 'FOR EVERY INPUT', by the rows' own cells (each row's printed sentence says how): SplitKinds: laid · SplitParts: laid · SplitAll: laid.
  DERIVED. THE GIVEN ROWS OF THIS SEAT. 3 by the template 'for every input the law returns true; each argument reads behind the call as it read before'; 0 by the template 'total and deterministic' (their statements: YtlanibgeafdefaaGreatDoorTotals.lean).
  GIVEN WITH THE SEED: the statements are not yours to turn. If you find one false, say at which input.
  Laid BY PROGRAM, IN A SANDBOX (cutbox-rows.mjs): the forced cells as the released guide's own fill.sh prints them over the translation a879bdd997fcaefd… (all of the seat's roots in one cut). By AI agents, Wed Nov 11 2026. No macro, syntax, notation, axiom, sorry.
-/
import Derived.Test.YtlanibgeafdefaaGreatDoorChecked
import GoSem.Claim
import GoSem.ClaimJoined
import GoSem.ClaimMapViews
import Derived.JoinedTies
import Derived.KernelRfl
namespace Go.Proofs.YtlanibgeafdefaaGreatDoor
/- THE CELL 'sum', in the pinned program and in every row, IS THE sha256 OF THE DUMP (.gsa) THAT YtlanibgeafdefaaGreatDoorProg.lean LOADS. Nothing in Lean hashes anything: it is a label: what it is worth is what the hold of that sum in a sandbox is worth. -/
noncomputable def Tryz.pinned : Pinned := { name := "ytlanibgeafdefaagreatdoor", sum := "a879bdd997fcaefd3830e3a3ab35be0646a08042d1176315167a5d6ee0f76234", checked := Tryz.checked }
namespace Rows
def none {H : Type} : Left H := { results := [], args := [] }

/- WHAT THE LISTED PACKAGE-LEVEL VARIABLES READ AS WHEN THE CALL BEGINS. Each datum BY PROGRAM (the guide's laid-datum.mjs) off the statement by which the dump's own 'gosem.cut.vars' lays the variable. In a bare row this is a premise. The card (YtlanibgeafdefaaGreatDoorCards.lean) ties it to the program's text. -/
def laid_platen_runs_says {H : Type} : DataW H := .agg [.agg [.lit (.int .i64 1), .lit (.int .i64 0)], .agg [.lit (.int .i64 1), .lit (.int .i64 0)], .agg [.lit (.int .i64 1), .lit (.int .i64 0)], .agg [.lit (.int .i64 1), .lit (.int .i64 0)], .agg [.lit (.int .i64 1), .lit (.int .i64 0)], .agg [.lit (.int .i64 1), .lit (.int .i64 0)], .agg [.lit (.int .i64 1), .lit (.int .i64 0)], .agg [.lit (.int .i64 1), .lit (.int .i64 0)], .agg [.lit (.int .i64 1), .lit (.int .i64 0)], .agg [.lit (.int .i64 1), .lit (.int .i64 0)], .agg [.lit (.int .i64 1), .lit (.int .i64 0)], .agg [.lit (.int .i64 1), .lit (.int .i64 0)], .agg [.lit (.int .i64 1), .lit (.int .i64 0)], .agg [.lit (.int .i64 1), .lit (.int .i64 0)], .agg [.lit (.int .i64 1), .lit (.int .i64 0)], .agg [.lit (.int .i64 1), .lit (.int .i64 0)], .agg [.lit (.int .i64 3), .lit (.int .i64 2)], .agg [.lit (.int .i64 3), .lit (.int .i64 3)], .agg [.lit (.int .i64 11), .lit (.int .i64 7)]]
def laid_platen_symbol_lengths {H : Type} : DataW H := .agg [.lit (.int .i64 257), .lit (.int .i64 28), .lit (.int .i64 3), .lit (.int .i64 257), .lit (.int .i64 2)]
def laid_platen_symbol_distances {H : Type} : DataW H := .agg [.lit (.int .i64 0), .lit (.int .i64 30), .lit (.int .i64 1), .lit (.int .i64 32768), .lit (.int .i64 1)]

/-- 'platenlaw14.SplitKinds': WHATEVER THE INPUT: true; the input reads as it did. -/
def splitKindsSpec : ChangeSpec := { name := "splitKinds", fn := fun _ => fun
  | [d1, d2, d3] => { results := [.lit (.bool true)], args := [d1, d2, d3] }
  | _ => none }
def splitKindsRow : OpenClaim := { program := "ytlanibgeafdefaagreatdoor", sum := "a879bdd997fcaefd3830e3a3ab35be0646a08042d1176315167a5d6ee0f76234", func := "platen/platenlaw14.SplitKinds", spec := "splitKinds", unfollowed := true, recurses := true, named := ["platen/symbol.lengths", "platen/symbol.distances", "platen/runs.says"], plainKeys := false, apart := false, laid := [("platen/runs.says", laid_platen_runs_says), ("platen/symbol.lengths", laid_platen_symbol_lengths), ("platen/symbol.distances", laid_platen_symbol_distances)] }
def SplitKindsSaid : Prop := splitKindsRow.holds Tryz.pinned (OpenSpec.ofChange splitKindsSpec)

/-- ITS FALSE NEIGHBOUR: 'it returns false'. Refute it at one input. -/
def splitKindsWrong : ChangeSpec := { name := "splitKinds", fn := fun _ => fun
  | [d1, d2, d3] => { results := [.lit (.bool false)], args := [d1, d2, d3] }
  | _ => none }
def SplitKindsWrongFalsely : Prop := splitKindsRow.holds Tryz.pinned (OpenSpec.ofChange splitKindsWrong)

/-- 'platenlaw14.SplitParts': WHATEVER THE INPUT: true; the input reads as it did. -/
def splitPartsSpec : ChangeSpec := { name := "splitParts", fn := fun _ => fun
  | [d1, d2] => { results := [.lit (.bool true)], args := [d1, d2] }
  | _ => none }
def splitPartsRow : OpenClaim := { program := "ytlanibgeafdefaagreatdoor", sum := "a879bdd997fcaefd3830e3a3ab35be0646a08042d1176315167a5d6ee0f76234", func := "platen/platenlaw14.SplitParts", spec := "splitParts", unfollowed := true, recurses := true, named := ["platen/symbol.lengths", "platen/symbol.distances", "platen/runs.says"], plainKeys := false, apart := false, laid := [("platen/runs.says", laid_platen_runs_says), ("platen/symbol.lengths", laid_platen_symbol_lengths), ("platen/symbol.distances", laid_platen_symbol_distances)] }
def SplitPartsSaid : Prop := splitPartsRow.holds Tryz.pinned (OpenSpec.ofChange splitPartsSpec)

/-- ITS FALSE NEIGHBOUR: 'it returns false'. Refute it at one input. -/
def splitPartsWrong : ChangeSpec := { name := "splitParts", fn := fun _ => fun
  | [d1, d2] => { results := [.lit (.bool false)], args := [d1, d2] }
  | _ => none }
def SplitPartsWrongFalsely : Prop := splitPartsRow.holds Tryz.pinned (OpenSpec.ofChange splitPartsWrong)

/-- 'platenlaw14.SplitAll': WHATEVER THE INPUT: true; the input reads as it did. -/
def splitAllSpec : ChangeSpec := { name := "splitAll", fn := fun _ => fun
  | [d1, d2] => { results := [.lit (.bool true)], args := [d1, d2] }
  | _ => none }
def splitAllRow : OpenClaim := { program := "ytlanibgeafdefaagreatdoor", sum := "a879bdd997fcaefd3830e3a3ab35be0646a08042d1176315167a5d6ee0f76234", func := "platen/platenlaw14.SplitAll", spec := "splitAll", unfollowed := true, recurses := true, named := ["platen/symbol.lengths", "platen/symbol.distances", "platen/runs.says"], plainKeys := false, apart := false, laid := [("platen/runs.says", laid_platen_runs_says), ("platen/symbol.lengths", laid_platen_symbol_lengths), ("platen/symbol.distances", laid_platen_symbol_distances)] }
def SplitAllSaid : Prop := splitAllRow.holds Tryz.pinned (OpenSpec.ofChange splitAllSpec)

/-- ITS FALSE NEIGHBOUR: 'it returns false'. Refute it at one input. -/
def splitAllWrong : ChangeSpec := { name := "splitAll", fn := fun _ => fun
  | [d1, d2] => { results := [.lit (.bool false)], args := [d1, d2] }
  | _ => none }
def SplitAllWrongFalsely : Prop := splitAllRow.holds Tryz.pinned (OpenSpec.ofChange splitAllWrong)

/- THE SECOND FORM. 'bulk': how many values and letters a reading holds, each counted each time it is reached (what is shared counts as often as it is met; a slice's spare places count too). A statement '..UptoSaid' is the law's where the arguments, and the package variables that the reading takes, are together of bulk at most 1048576: NARROWER than '..Said'. Prove '..Said' where nothing that the law and all that it calls make is longer than what came in: it says more and counts as full. Else prove '..UptoSaid'. A law counts once. -/
mutual
def uptoBulk {H : Type} : DataW H → Nat
  | .lit (.string bytes) => bytes.length + 1
  | .lit _ => 1
  | .nil => 1
  | .ptr d => uptoBulk d + 1
  | .slice elems spare => uptoBulkAll elems + uptoBulkAll spare + 1
  | .agg parts => uptoBulkAll parts + 1
  | .iface _ d => uptoBulk d + 1
  | .map entries => uptoBulkEntries entries + 1
  | .held _ => 1
def uptoBulkAll {H : Type} : List (DataW H) → Nat
  | [] => 0
  | d :: r => uptoBulk d + uptoBulkAll r
def uptoBulkEntries {H : Type} : List (Lit × DataW H) → Nat
  | [] => 0
  | x :: r => uptoBulkEntry x + uptoBulkEntries r
def uptoBulkEntry {H : Type} : Lit × DataW H → Nat
  | (.string bytes, d) => bytes.length + uptoBulk d + 1
  | (_, d) => uptoBulk d + 1
 end
def uptoSmall : (H : Type) → List (DataW H) → Bool := fun _ ds => decide (uptoBulkAll ds ≤ 1048576)
def OpenSpec.upto (s : _root_.Go.ChangeSpec) : _root_.Go.OpenSpec := { _root_.Go.OpenSpec.ofChange s with cond := some uptoSmall }

/-- 'platenlaw14.SplitKinds', WHERE WHAT IT READS IS OF BULK AT MOST 1048576: true; the input reads as it did. -/
def splitKindsUptoRow : OpenClaim := { program := "ytlanibgeafdefaagreatdoor", sum := "a879bdd997fcaefd3830e3a3ab35be0646a08042d1176315167a5d6ee0f76234", func := "platen/platenlaw14.SplitKinds", spec := "splitKinds", unfollowed := true, recurses := true, named := ["platen/symbol.lengths", "platen/symbol.distances", "platen/runs.says"], plainKeys := false, apart := false, laid := [("platen/runs.says", laid_platen_runs_says), ("platen/symbol.lengths", laid_platen_symbol_lengths), ("platen/symbol.distances", laid_platen_symbol_distances)], narrowed := true }
def SplitKindsUptoSaid : Prop := splitKindsUptoRow.holds Tryz.pinned (OpenSpec.upto splitKindsSpec)

/-- 'platenlaw14.SplitParts', WHERE WHAT IT READS IS OF BULK AT MOST 1048576: true; the input reads as it did. -/
def splitPartsUptoRow : OpenClaim := { program := "ytlanibgeafdefaagreatdoor", sum := "a879bdd997fcaefd3830e3a3ab35be0646a08042d1176315167a5d6ee0f76234", func := "platen/platenlaw14.SplitParts", spec := "splitParts", unfollowed := true, recurses := true, named := ["platen/symbol.lengths", "platen/symbol.distances", "platen/runs.says"], plainKeys := false, apart := false, laid := [("platen/runs.says", laid_platen_runs_says), ("platen/symbol.lengths", laid_platen_symbol_lengths), ("platen/symbol.distances", laid_platen_symbol_distances)], narrowed := true }
def SplitPartsUptoSaid : Prop := splitPartsUptoRow.holds Tryz.pinned (OpenSpec.upto splitPartsSpec)

/-- 'platenlaw14.SplitAll', WHERE WHAT IT READS IS OF BULK AT MOST 1048576: true; the input reads as it did. -/
def splitAllUptoRow : OpenClaim := { program := "ytlanibgeafdefaagreatdoor", sum := "a879bdd997fcaefd3830e3a3ab35be0646a08042d1176315167a5d6ee0f76234", func := "platen/platenlaw14.SplitAll", spec := "splitAll", unfollowed := true, recurses := true, named := ["platen/symbol.lengths", "platen/symbol.distances", "platen/runs.says"], plainKeys := false, apart := false, laid := [("platen/runs.says", laid_platen_runs_says), ("platen/symbol.lengths", laid_platen_symbol_lengths), ("platen/symbol.distances", laid_platen_symbol_distances)], narrowed := true }
def SplitAllUptoSaid : Prop := splitAllUptoRow.holds Tryz.pinned (OpenSpec.upto splitAllSpec)

end Rows
end Go.Proofs.YtlanibgeafdefaaGreatDoor
