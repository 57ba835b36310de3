/-
  NARROWER THAN 'FOR EVERY INPUT', by the rows' own cells (each row's printed sentence says how): InflateSpoilt: laid · InflateBack: laid · InflateCuts: laid · InflateBlocks: laid.
  DERIVED. THE GIVEN ROWS OF THIS SEAT. 4 by the template 'for every input the law returns true; each argument reads behind the call as it read before'; 0 by the template 'total and deterministic' (their statements: YtolcaknhjjejeaaGreatDoorTotals.lean).
  GIVEN WITH THE SEED: the statements are not yours to turn. If you find one false, say at which input.
  Laid BY PROGRAM, IN A SANDBOX (cutbox-rows.mjs): the forced cells as the released guide's own fill.sh prints them over the translation a75c81557b071803… (all of the seat's roots in one cut). By AI agents, Wed Nov 11 2026. No macro, syntax, notation, axiom, sorry.
-/
import Derived.Test.YtolcaknhjjejeaaGreatDoorChecked
import GoSem.Claim
import GoSem.ClaimJoined
import GoSem.ClaimMapViews
import Derived.JoinedTies
import Derived.KernelRfl
namespace Go.Proofs.YtolcaknhjjejeaaGreatDoor
/- THE CELL 'sum', in the pinned program and in every row, IS THE sha256 OF THE DUMP (.gsa) THAT YtolcaknhjjejeaaGreatDoorProg.lean LOADS. Nothing in Lean hashes anything: it is a label: what it is worth is what the hold of that sum in a sandbox is worth. -/
noncomputable def Tryz.pinned : Pinned := { name := "ytolcaknhjjejeaagreatdoor", sum := "a75c81557b071803555c25957c618ed2b2606f1b53c3b43cdb014e7ae1fe7e06", checked := Tryz.checked }
namespace Rows
def none {H : Type} : Left H := { results := [], args := [] }

/- WHAT THE LISTED PACKAGE-LEVEL VARIABLES READ AS WHEN THE CALL BEGINS. Each datum BY PROGRAM (the guide's laid-datum.mjs) off the statement by which the dump's own 'gosem.cut.vars' lays the variable. In a bare row this is a premise. The card (YtolcaknhjjejeaaGreatDoorCards.lean) ties it to the program's text. -/
def laid_platen_runs_says {H : Type} : DataW H := .agg [.agg [.lit (.int .i64 1), .lit (.int .i64 0)], .agg [.lit (.int .i64 1), .lit (.int .i64 0)], .agg [.lit (.int .i64 1), .lit (.int .i64 0)], .agg [.lit (.int .i64 1), .lit (.int .i64 0)], .agg [.lit (.int .i64 1), .lit (.int .i64 0)], .agg [.lit (.int .i64 1), .lit (.int .i64 0)], .agg [.lit (.int .i64 1), .lit (.int .i64 0)], .agg [.lit (.int .i64 1), .lit (.int .i64 0)], .agg [.lit (.int .i64 1), .lit (.int .i64 0)], .agg [.lit (.int .i64 1), .lit (.int .i64 0)], .agg [.lit (.int .i64 1), .lit (.int .i64 0)], .agg [.lit (.int .i64 1), .lit (.int .i64 0)], .agg [.lit (.int .i64 1), .lit (.int .i64 0)], .agg [.lit (.int .i64 1), .lit (.int .i64 0)], .agg [.lit (.int .i64 1), .lit (.int .i64 0)], .agg [.lit (.int .i64 1), .lit (.int .i64 0)], .agg [.lit (.int .i64 3), .lit (.int .i64 2)], .agg [.lit (.int .i64 3), .lit (.int .i64 3)], .agg [.lit (.int .i64 11), .lit (.int .i64 7)]]
def laid_platen_symbol_lengths {H : Type} : DataW H := .agg [.lit (.int .i64 257), .lit (.int .i64 28), .lit (.int .i64 3), .lit (.int .i64 257), .lit (.int .i64 2)]
def laid_platen_symbol_distances {H : Type} : DataW H := .agg [.lit (.int .i64 0), .lit (.int .i64 30), .lit (.int .i64 1), .lit (.int .i64 32768), .lit (.int .i64 1)]

/-- 'platenlaw16.InflateSpoilt': WHATEVER THE INPUT: true; the input reads as it did. -/
def inflateSpoiltSpec : ChangeSpec := { name := "inflateSpoilt", fn := fun _ => fun
  | [d1, d2, d3, d4, d5, d6] => { results := [.lit (.bool true)], args := [d1, d2, d3, d4, d5, d6] }
  | _ => none }
def inflateSpoiltRow : OpenClaim := { program := "ytolcaknhjjejeaagreatdoor", sum := "a75c81557b071803555c25957c618ed2b2606f1b53c3b43cdb014e7ae1fe7e06", func := "platen/platenlaw16.InflateSpoilt", spec := "inflateSpoilt", unfollowed := true, recurses := true, named := ["platen/runs.says", "platen/symbol.lengths", "platen/symbol.distances"], plainKeys := false, apart := false, laid := [("platen/runs.says", laid_platen_runs_says), ("platen/symbol.lengths", laid_platen_symbol_lengths), ("platen/symbol.distances", laid_platen_symbol_distances)] }
def InflateSpoiltSaid : Prop := inflateSpoiltRow.holds Tryz.pinned (OpenSpec.ofChange inflateSpoiltSpec)

/-- ITS FALSE NEIGHBOUR: 'it returns false'. Refute it at one input. -/
def inflateSpoiltWrong : ChangeSpec := { name := "inflateSpoilt", fn := fun _ => fun
  | [d1, d2, d3, d4, d5, d6] => { results := [.lit (.bool false)], args := [d1, d2, d3, d4, d5, d6] }
  | _ => none }
def InflateSpoiltWrongFalsely : Prop := inflateSpoiltRow.holds Tryz.pinned (OpenSpec.ofChange inflateSpoiltWrong)

/-- 'platenlaw16.InflateBack': WHATEVER THE INPUT: true; the input reads as it did. -/
def inflateBackSpec : ChangeSpec := { name := "inflateBack", fn := fun _ => fun
  | [d1, d2, d3, d4, d5] => { results := [.lit (.bool true)], args := [d1, d2, d3, d4, d5] }
  | _ => none }
def inflateBackRow : OpenClaim := { program := "ytolcaknhjjejeaagreatdoor", sum := "a75c81557b071803555c25957c618ed2b2606f1b53c3b43cdb014e7ae1fe7e06", func := "platen/platenlaw16.InflateBack", spec := "inflateBack", unfollowed := true, recurses := true, named := ["platen/runs.says", "platen/symbol.lengths", "platen/symbol.distances"], plainKeys := false, apart := false, laid := [("platen/runs.says", laid_platen_runs_says), ("platen/symbol.lengths", laid_platen_symbol_lengths), ("platen/symbol.distances", laid_platen_symbol_distances)] }
def InflateBackSaid : Prop := inflateBackRow.holds Tryz.pinned (OpenSpec.ofChange inflateBackSpec)

/-- ITS FALSE NEIGHBOUR: 'it returns false'. Refute it at one input. -/
def inflateBackWrong : ChangeSpec := { name := "inflateBack", fn := fun _ => fun
  | [d1, d2, d3, d4, d5] => { results := [.lit (.bool false)], args := [d1, d2, d3, d4, d5] }
  | _ => none }
def InflateBackWrongFalsely : Prop := inflateBackRow.holds Tryz.pinned (OpenSpec.ofChange inflateBackWrong)

/-- 'platenlaw16.InflateCuts': WHATEVER THE INPUT: true; the input reads as it did. -/
def inflateCutsSpec : ChangeSpec := { name := "inflateCuts", fn := fun _ => fun
  | [d1, d2, d3, d4, d5] => { results := [.lit (.bool true)], args := [d1, d2, d3, d4, d5] }
  | _ => none }
def inflateCutsRow : OpenClaim := { program := "ytolcaknhjjejeaagreatdoor", sum := "a75c81557b071803555c25957c618ed2b2606f1b53c3b43cdb014e7ae1fe7e06", func := "platen/platenlaw16.InflateCuts", spec := "inflateCuts", unfollowed := true, recurses := true, named := ["platen/runs.says", "platen/symbol.lengths", "platen/symbol.distances"], plainKeys := false, apart := false, laid := [("platen/runs.says", laid_platen_runs_says), ("platen/symbol.lengths", laid_platen_symbol_lengths), ("platen/symbol.distances", laid_platen_symbol_distances)] }
def InflateCutsSaid : Prop := inflateCutsRow.holds Tryz.pinned (OpenSpec.ofChange inflateCutsSpec)

/-- ITS FALSE NEIGHBOUR: 'it returns false'. Refute it at one input. -/
def inflateCutsWrong : ChangeSpec := { name := "inflateCuts", fn := fun _ => fun
  | [d1, d2, d3, d4, d5] => { results := [.lit (.bool false)], args := [d1, d2, d3, d4, d5] }
  | _ => none }
def InflateCutsWrongFalsely : Prop := inflateCutsRow.holds Tryz.pinned (OpenSpec.ofChange inflateCutsWrong)

/-- 'platenlaw16.InflateBlocks': WHATEVER THE INPUT: true; the input reads as it did. -/
def inflateBlocksSpec : ChangeSpec := { name := "inflateBlocks", fn := fun _ => fun
  | [d1, d2, d3] => { results := [.lit (.bool true)], args := [d1, d2, d3] }
  | _ => none }
def inflateBlocksRow : OpenClaim := { program := "ytolcaknhjjejeaagreatdoor", sum := "a75c81557b071803555c25957c618ed2b2606f1b53c3b43cdb014e7ae1fe7e06", func := "platen/platenlaw16.InflateBlocks", spec := "inflateBlocks", unfollowed := true, recurses := true, named := ["platen/runs.says", "platen/symbol.lengths", "platen/symbol.distances"], plainKeys := false, apart := false, laid := [("platen/runs.says", laid_platen_runs_says), ("platen/symbol.lengths", laid_platen_symbol_lengths), ("platen/symbol.distances", laid_platen_symbol_distances)] }
def InflateBlocksSaid : Prop := inflateBlocksRow.holds Tryz.pinned (OpenSpec.ofChange inflateBlocksSpec)

/-- ITS FALSE NEIGHBOUR: 'it returns false'. Refute it at one input. -/
def inflateBlocksWrong : ChangeSpec := { name := "inflateBlocks", fn := fun _ => fun
  | [d1, d2, d3] => { results := [.lit (.bool false)], args := [d1, d2, d3] }
  | _ => none }
def InflateBlocksWrongFalsely : Prop := inflateBlocksRow.holds Tryz.pinned (OpenSpec.ofChange inflateBlocksWrong)

/- THE SECOND FORM. 'bulk': how many values and letters a reading holds, each counted each time it is reached (what is shared counts as often as it is met; a slice's spare places count too). A statement '..UptoSaid' is the law's where the arguments, and the package variables that the reading takes, are together of bulk at most 1048576: NARROWER than '..Said'. Prove '..Said' where nothing that the law and all that it calls make is longer than what came in: it says more and counts as full. Else prove '..UptoSaid'. A law counts once. -/
mutual
def uptoBulk {H : Type} : DataW H → Nat
  | .lit (.string bytes) => bytes.length + 1
  | .lit _ => 1
  | .nil => 1
  | .ptr d => uptoBulk d + 1
  | .slice elems spare => uptoBulkAll elems + uptoBulkAll spare + 1
  | .agg parts => uptoBulkAll parts + 1
  | .iface _ d => uptoBulk d + 1
  | .map entries => uptoBulkEntries entries + 1
  | .held _ => 1
def uptoBulkAll {H : Type} : List (DataW H) → Nat
  | [] => 0
  | d :: r => uptoBulk d + uptoBulkAll r
def uptoBulkEntries {H : Type} : List (Lit × DataW H) → Nat
  | [] => 0
  | x :: r => uptoBulkEntry x + uptoBulkEntries r
def uptoBulkEntry {H : Type} : Lit × DataW H → Nat
  | (.string bytes, d) => bytes.length + uptoBulk d + 1
  | (_, d) => uptoBulk d + 1
 end
def uptoSmall : (H : Type) → List (DataW H) → Bool := fun _ ds => decide (uptoBulkAll ds ≤ 1048576)
def OpenSpec.upto (s : _root_.Go.ChangeSpec) : _root_.Go.OpenSpec := { _root_.Go.OpenSpec.ofChange s with cond := some uptoSmall }

/-- 'platenlaw16.InflateSpoilt', WHERE WHAT IT READS IS OF BULK AT MOST 1048576: true; the input reads as it did. -/
def inflateSpoiltUptoRow : OpenClaim := { program := "ytolcaknhjjejeaagreatdoor", sum := "a75c81557b071803555c25957c618ed2b2606f1b53c3b43cdb014e7ae1fe7e06", func := "platen/platenlaw16.InflateSpoilt", spec := "inflateSpoilt", unfollowed := true, recurses := true, named := ["platen/runs.says", "platen/symbol.lengths", "platen/symbol.distances"], plainKeys := false, apart := false, laid := [("platen/runs.says", laid_platen_runs_says), ("platen/symbol.lengths", laid_platen_symbol_lengths), ("platen/symbol.distances", laid_platen_symbol_distances)], narrowed := true }
def InflateSpoiltUptoSaid : Prop := inflateSpoiltUptoRow.holds Tryz.pinned (OpenSpec.upto inflateSpoiltSpec)

/-- 'platenlaw16.InflateBack', WHERE WHAT IT READS IS OF BULK AT MOST 1048576: true; the input reads as it did. -/
def inflateBackUptoRow : OpenClaim := { program := "ytolcaknhjjejeaagreatdoor", sum := "a75c81557b071803555c25957c618ed2b2606f1b53c3b43cdb014e7ae1fe7e06", func := "platen/platenlaw16.InflateBack", spec := "inflateBack", unfollowed := true, recurses := true, named := ["platen/runs.says", "platen/symbol.lengths", "platen/symbol.distances"], plainKeys := false, apart := false, laid := [("platen/runs.says", laid_platen_runs_says), ("platen/symbol.lengths", laid_platen_symbol_lengths), ("platen/symbol.distances", laid_platen_symbol_distances)], narrowed := true }
def InflateBackUptoSaid : Prop := inflateBackUptoRow.holds Tryz.pinned (OpenSpec.upto inflateBackSpec)

/-- 'platenlaw16.InflateCuts', WHERE WHAT IT READS IS OF BULK AT MOST 1048576: true; the input reads as it did. -/
def inflateCutsUptoRow : OpenClaim := { program := "ytolcaknhjjejeaagreatdoor", sum := "a75c81557b071803555c25957c618ed2b2606f1b53c3b43cdb014e7ae1fe7e06", func := "platen/platenlaw16.InflateCuts", spec := "inflateCuts", unfollowed := true, recurses := true, named := ["platen/runs.says", "platen/symbol.lengths", "platen/symbol.distances"], plainKeys := false, apart := false, laid := [("platen/runs.says", laid_platen_runs_says), ("platen/symbol.lengths", laid_platen_symbol_lengths), ("platen/symbol.distances", laid_platen_symbol_distances)], narrowed := true }
def InflateCutsUptoSaid : Prop := inflateCutsUptoRow.holds Tryz.pinned (OpenSpec.upto inflateCutsSpec)

/-- 'platenlaw16.InflateBlocks', WHERE WHAT IT READS IS OF BULK AT MOST 1048576: true; the input reads as it did. -/
def inflateBlocksUptoRow : OpenClaim := { program := "ytolcaknhjjejeaagreatdoor", sum := "a75c81557b071803555c25957c618ed2b2606f1b53c3b43cdb014e7ae1fe7e06", func := "platen/platenlaw16.InflateBlocks", spec := "inflateBlocks", unfollowed := true, recurses := true, named := ["platen/runs.says", "platen/symbol.lengths", "platen/symbol.distances"], plainKeys := false, apart := false, laid := [("platen/runs.says", laid_platen_runs_says), ("platen/symbol.lengths", laid_platen_symbol_lengths), ("platen/symbol.distances", laid_platen_symbol_distances)], narrowed := true }
def InflateBlocksUptoSaid : Prop := inflateBlocksUptoRow.holds Tryz.pinned (OpenSpec.upto inflateBlocksSpec)

end Rows
end Go.Proofs.YtolcaknhjjejeaaGreatDoor
