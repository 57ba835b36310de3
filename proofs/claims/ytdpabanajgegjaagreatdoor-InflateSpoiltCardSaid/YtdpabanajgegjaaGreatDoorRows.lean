/-
  NARROWER THAN 'FOR EVERY INPUT', by the rows' own cells (each row's printed sentence says how): InflateSpoilt: laid · ZlibReads: laid · ZlibSpoilt: laid · ZlibBack: laid.
  DERIVED. THE GIVEN ROWS OF THIS SEAT. 4 by the template 'for every input the law returns true; each argument reads behind the call as it read before'; 0 by the template 'total and deterministic' (their statements: YtdpabanajgegjaaGreatDoorTotals.lean).
  GIVEN WITH THE SEED: the statements are not yours to turn. If you find one false, say at which input.
  Laid BY PROGRAM, IN A SANDBOX (cutbox-rows.mjs): the forced cells as the released guide's own fill.sh prints them over the translation cbfdc72629233c10… (all of the seat's roots in one cut). By AI agents, Wed Nov 11 2026. No macro, syntax, notation, axiom, sorry.
-/
import Derived.Test.YtdpabanajgegjaaGreatDoorChecked
import GoSem.Claim
import GoSem.ClaimJoined
import GoSem.ClaimMapViews
import Derived.JoinedTies
import Derived.KernelRfl
namespace Go.Proofs.YtdpabanajgegjaaGreatDoor
/- THE CELL 'sum', in the pinned program and in every row, IS THE sha256 OF THE DUMP (.gsa) THAT YtdpabanajgegjaaGreatDoorProg.lean LOADS. Nothing in Lean hashes anything: it is a label: what it is worth is what the hold of that sum in a sandbox is worth. -/
noncomputable def Tryz.pinned : Pinned := { name := "ytdpabanajgegjaagreatdoor", sum := "cbfdc72629233c10f3a32e46d3c147af44267618c03dc3f50074275f2b85b14b", checked := Tryz.checked }
namespace Rows
def none {H : Type} : Left H := { results := [], args := [] }

/- WHAT THE LISTED PACKAGE-LEVEL VARIABLES READ AS WHEN THE CALL BEGINS. Each datum BY PROGRAM (the guide's laid-datum.mjs) off the statement by which the dump's own 'gosem.cut.vars' lays the variable. In a bare row this is a premise. The card (YtdpabanajgegjaaGreatDoorCards.lean) ties it to the program's text. -/
def laid_platen_runs_says {H : Type} : DataW H := .agg [.agg [.lit (.int .i64 1), .lit (.int .i64 0)], .agg [.lit (.int .i64 1), .lit (.int .i64 0)], .agg [.lit (.int .i64 1), .lit (.int .i64 0)], .agg [.lit (.int .i64 1), .lit (.int .i64 0)], .agg [.lit (.int .i64 1), .lit (.int .i64 0)], .agg [.lit (.int .i64 1), .lit (.int .i64 0)], .agg [.lit (.int .i64 1), .lit (.int .i64 0)], .agg [.lit (.int .i64 1), .lit (.int .i64 0)], .agg [.lit (.int .i64 1), .lit (.int .i64 0)], .agg [.lit (.int .i64 1), .lit (.int .i64 0)], .agg [.lit (.int .i64 1), .lit (.int .i64 0)], .agg [.lit (.int .i64 1), .lit (.int .i64 0)], .agg [.lit (.int .i64 1), .lit (.int .i64 0)], .agg [.lit (.int .i64 1), .lit (.int .i64 0)], .agg [.lit (.int .i64 1), .lit (.int .i64 0)], .agg [.lit (.int .i64 1), .lit (.int .i64 0)], .agg [.lit (.int .i64 3), .lit (.int .i64 2)], .agg [.lit (.int .i64 3), .lit (.int .i64 3)], .agg [.lit (.int .i64 11), .lit (.int .i64 7)]]
def laid_platen_symbol_lengths {H : Type} : DataW H := .agg [.lit (.int .i64 257), .lit (.int .i64 28), .lit (.int .i64 3), .lit (.int .i64 257), .lit (.int .i64 2)]
def laid_platen_symbol_distances {H : Type} : DataW H := .agg [.lit (.int .i64 0), .lit (.int .i64 30), .lit (.int .i64 1), .lit (.int .i64 32768), .lit (.int .i64 1)]
def laid_platen_parse_levels {H : Type} : DataW H := .agg [.agg [.lit (.int .i64 0), .lit (.int .i64 0), .lit (.int .i64 0)], .agg [.lit (.int .i64 4), .lit (.int .i64 8), .lit (.int .i64 0)], .agg [.lit (.int .i64 8), .lit (.int .i64 16), .lit (.int .i64 0)], .agg [.lit (.int .i64 16), .lit (.int .i64 32), .lit (.int .i64 0)], .agg [.lit (.int .i64 8), .lit (.int .i64 16), .lit (.int .i64 4)], .agg [.lit (.int .i64 16), .lit (.int .i64 32), .lit (.int .i64 16)], .agg [.lit (.int .i64 64), .lit (.int .i64 128), .lit (.int .i64 16)], .agg [.lit (.int .i64 128), .lit (.int .i64 128), .lit (.int .i64 32)], .agg [.lit (.int .i64 512), .lit (.int .i64 258), .lit (.int .i64 128)], .agg [.lit (.int .i64 2048), .lit (.int .i64 258), .lit (.int .i64 258)]]
def laid_platen_zlib_levels {H : Type} : DataW H := .agg [.lit (.int .u8 0), .lit (.int .u8 0), .lit (.int .u8 1), .lit (.int .u8 1), .lit (.int .u8 1), .lit (.int .u8 1), .lit (.int .u8 2), .lit (.int .u8 3), .lit (.int .u8 3), .lit (.int .u8 3)]

/-- 'platenlaw16.InflateSpoilt': WHATEVER THE INPUT: true; the input reads as it did. -/
def inflateSpoiltSpec : ChangeSpec := { name := "inflateSpoilt", fn := fun _ => fun
  | [d1, d2, d3, d4, d5, d6] => { results := [.lit (.bool true)], args := [d1, d2, d3, d4, d5, d6] }
  | _ => none }
def inflateSpoiltRow : OpenClaim := { program := "ytdpabanajgegjaagreatdoor", sum := "cbfdc72629233c10f3a32e46d3c147af44267618c03dc3f50074275f2b85b14b", func := "platen/platenlaw16.InflateSpoilt", spec := "inflateSpoilt", unfollowed := true, recurses := true, named := ["platen/runs.says", "platen/symbol.lengths", "platen/symbol.distances"], plainKeys := false, apart := false, laid := [("platen/runs.says", laid_platen_runs_says), ("platen/symbol.lengths", laid_platen_symbol_lengths), ("platen/symbol.distances", laid_platen_symbol_distances)] }
def InflateSpoiltSaid : Prop := inflateSpoiltRow.holds Tryz.pinned (OpenSpec.ofChange inflateSpoiltSpec)

/-- ITS FALSE NEIGHBOUR: 'it returns false'. Refute it at one input. -/
def inflateSpoiltWrong : ChangeSpec := { name := "inflateSpoilt", fn := fun _ => fun
  | [d1, d2, d3, d4, d5, d6] => { results := [.lit (.bool false)], args := [d1, d2, d3, d4, d5, d6] }
  | _ => none }
def InflateSpoiltWrongFalsely : Prop := inflateSpoiltRow.holds Tryz.pinned (OpenSpec.ofChange inflateSpoiltWrong)

/-- 'platenlaw17.ZlibReads': WHATEVER THE INPUT: true; the input reads as it did. -/
def zlibReadsSpec : ChangeSpec := { name := "zlibReads", fn := fun _ => fun
  | [d1, d2, d3] => { results := [.lit (.bool true)], args := [d1, d2, d3] }
  | _ => none }
def zlibReadsRow : OpenClaim := { program := "ytdpabanajgegjaagreatdoor", sum := "cbfdc72629233c10f3a32e46d3c147af44267618c03dc3f50074275f2b85b14b", func := "platen/platenlaw17.ZlibReads", spec := "zlibReads", unfollowed := true, recurses := true, named := ["platen/parse.levels", "platen/symbol.lengths", "platen/symbol.distances", "platen/runs.says", "platen/zlib.levels"], plainKeys := false, apart := false, laid := [("platen/parse.levels", laid_platen_parse_levels), ("platen/runs.says", laid_platen_runs_says), ("platen/symbol.lengths", laid_platen_symbol_lengths), ("platen/symbol.distances", laid_platen_symbol_distances), ("platen/zlib.levels", laid_platen_zlib_levels)] }
def ZlibReadsSaid : Prop := zlibReadsRow.holds Tryz.pinned (OpenSpec.ofChange zlibReadsSpec)

/-- ITS FALSE NEIGHBOUR: 'it returns false'. Refute it at one input. -/
def zlibReadsWrong : ChangeSpec := { name := "zlibReads", fn := fun _ => fun
  | [d1, d2, d3] => { results := [.lit (.bool false)], args := [d1, d2, d3] }
  | _ => none }
def ZlibReadsWrongFalsely : Prop := zlibReadsRow.holds Tryz.pinned (OpenSpec.ofChange zlibReadsWrong)

/-- 'platenlaw17.ZlibSpoilt': WHATEVER THE INPUT: true; the input reads as it did. -/
def zlibSpoiltSpec : ChangeSpec := { name := "zlibSpoilt", fn := fun _ => fun
  | [d1, d2, d3, d4, d5, d6, d7] => { results := [.lit (.bool true)], args := [d1, d2, d3, d4, d5, d6, d7] }
  | _ => none }
def zlibSpoiltRow : OpenClaim := { program := "ytdpabanajgegjaagreatdoor", sum := "cbfdc72629233c10f3a32e46d3c147af44267618c03dc3f50074275f2b85b14b", func := "platen/platenlaw17.ZlibSpoilt", spec := "zlibSpoilt", unfollowed := true, recurses := true, named := ["platen/parse.levels", "platen/symbol.lengths", "platen/symbol.distances", "platen/runs.says", "platen/zlib.levels"], plainKeys := false, apart := false, laid := [("platen/parse.levels", laid_platen_parse_levels), ("platen/runs.says", laid_platen_runs_says), ("platen/symbol.lengths", laid_platen_symbol_lengths), ("platen/symbol.distances", laid_platen_symbol_distances), ("platen/zlib.levels", laid_platen_zlib_levels)] }
def ZlibSpoiltSaid : Prop := zlibSpoiltRow.holds Tryz.pinned (OpenSpec.ofChange zlibSpoiltSpec)

/-- ITS FALSE NEIGHBOUR: 'it returns false'. Refute it at one input. -/
def zlibSpoiltWrong : ChangeSpec := { name := "zlibSpoilt", fn := fun _ => fun
  | [d1, d2, d3, d4, d5, d6, d7] => { results := [.lit (.bool false)], args := [d1, d2, d3, d4, d5, d6, d7] }
  | _ => none }
def ZlibSpoiltWrongFalsely : Prop := zlibSpoiltRow.holds Tryz.pinned (OpenSpec.ofChange zlibSpoiltWrong)

/-- 'platenlaw17.ZlibBack': WHATEVER THE INPUT: true; the input reads as it did. -/
def zlibBackSpec : ChangeSpec := { name := "zlibBack", fn := fun _ => fun
  | [d1, d2, d3, d4, d5, d6] => { results := [.lit (.bool true)], args := [d1, d2, d3, d4, d5, d6] }
  | _ => none }
def zlibBackRow : OpenClaim := { program := "ytdpabanajgegjaagreatdoor", sum := "cbfdc72629233c10f3a32e46d3c147af44267618c03dc3f50074275f2b85b14b", func := "platen/platenlaw17.ZlibBack", spec := "zlibBack", unfollowed := true, recurses := true, named := ["platen/parse.levels", "platen/symbol.lengths", "platen/symbol.distances", "platen/runs.says", "platen/zlib.levels"], plainKeys := false, apart := false, laid := [("platen/parse.levels", laid_platen_parse_levels), ("platen/runs.says", laid_platen_runs_says), ("platen/symbol.lengths", laid_platen_symbol_lengths), ("platen/symbol.distances", laid_platen_symbol_distances), ("platen/zlib.levels", laid_platen_zlib_levels)] }
def ZlibBackSaid : Prop := zlibBackRow.holds Tryz.pinned (OpenSpec.ofChange zlibBackSpec)

/-- ITS FALSE NEIGHBOUR: 'it returns false'. Refute it at one input. -/
def zlibBackWrong : ChangeSpec := { name := "zlibBack", fn := fun _ => fun
  | [d1, d2, d3, d4, d5, d6] => { results := [.lit (.bool false)], args := [d1, d2, d3, d4, d5, d6] }
  | _ => none }
def ZlibBackWrongFalsely : Prop := zlibBackRow.holds Tryz.pinned (OpenSpec.ofChange zlibBackWrong)

/- THE SECOND FORM. 'bulk': how many values and letters a reading holds, each counted each time it is reached (what is shared counts as often as it is met; a slice's spare places count too). A statement '..UptoSaid' is the law's where the arguments, and the package variables that the reading takes, are together of bulk at most 1048576: NARROWER than '..Said'. Prove '..Said' where nothing that the law and all that it calls make is longer than what came in: it says more and counts as full. Else prove '..UptoSaid'. A law counts once. -/
mutual
def uptoBulk {H : Type} : DataW H → Nat
  | .lit (.string bytes) => bytes.length + 1
  | .lit _ => 1
  | .nil => 1
  | .ptr d => uptoBulk d + 1
  | .slice elems spare => uptoBulkAll elems + uptoBulkAll spare + 1
  | .agg parts => uptoBulkAll parts + 1
  | .iface _ d => uptoBulk d + 1
  | .map entries => uptoBulkEntries entries + 1
  | .held _ => 1
def uptoBulkAll {H : Type} : List (DataW H) → Nat
  | [] => 0
  | d :: r => uptoBulk d + uptoBulkAll r
def uptoBulkEntries {H : Type} : List (Lit × DataW H) → Nat
  | [] => 0
  | x :: r => uptoBulkEntry x + uptoBulkEntries r
def uptoBulkEntry {H : Type} : Lit × DataW H → Nat
  | (.string bytes, d) => bytes.length + uptoBulk d + 1
  | (_, d) => uptoBulk d + 1
 end
def uptoSmall : (H : Type) → List (DataW H) → Bool := fun _ ds => decide (uptoBulkAll ds ≤ 1048576)
def OpenSpec.upto (s : _root_.Go.ChangeSpec) : _root_.Go.OpenSpec := { _root_.Go.OpenSpec.ofChange s with cond := some uptoSmall }

/-- 'platenlaw16.InflateSpoilt', WHERE WHAT IT READS IS OF BULK AT MOST 1048576: true; the input reads as it did. -/
def inflateSpoiltUptoRow : OpenClaim := { program := "ytdpabanajgegjaagreatdoor", sum := "cbfdc72629233c10f3a32e46d3c147af44267618c03dc3f50074275f2b85b14b", func := "platen/platenlaw16.InflateSpoilt", spec := "inflateSpoilt", unfollowed := true, recurses := true, named := ["platen/runs.says", "platen/symbol.lengths", "platen/symbol.distances"], plainKeys := false, apart := false, laid := [("platen/runs.says", laid_platen_runs_says), ("platen/symbol.lengths", laid_platen_symbol_lengths), ("platen/symbol.distances", laid_platen_symbol_distances)], narrowed := true }
def InflateSpoiltUptoSaid : Prop := inflateSpoiltUptoRow.holds Tryz.pinned (OpenSpec.upto inflateSpoiltSpec)

/-- 'platenlaw17.ZlibReads', WHERE WHAT IT READS IS OF BULK AT MOST 1048576: true; the input reads as it did. -/
def zlibReadsUptoRow : OpenClaim := { program := "ytdpabanajgegjaagreatdoor", sum := "cbfdc72629233c10f3a32e46d3c147af44267618c03dc3f50074275f2b85b14b", func := "platen/platenlaw17.ZlibReads", spec := "zlibReads", unfollowed := true, recurses := true, named := ["platen/parse.levels", "platen/symbol.lengths", "platen/symbol.distances", "platen/runs.says", "platen/zlib.levels"], plainKeys := false, apart := false, laid := [("platen/parse.levels", laid_platen_parse_levels), ("platen/runs.says", laid_platen_runs_says), ("platen/symbol.lengths", laid_platen_symbol_lengths), ("platen/symbol.distances", laid_platen_symbol_distances), ("platen/zlib.levels", laid_platen_zlib_levels)], narrowed := true }
def ZlibReadsUptoSaid : Prop := zlibReadsUptoRow.holds Tryz.pinned (OpenSpec.upto zlibReadsSpec)

/-- 'platenlaw17.ZlibSpoilt', WHERE WHAT IT READS IS OF BULK AT MOST 1048576: true; the input reads as it did. -/
def zlibSpoiltUptoRow : OpenClaim := { program := "ytdpabanajgegjaagreatdoor", sum := "cbfdc72629233c10f3a32e46d3c147af44267618c03dc3f50074275f2b85b14b", func := "platen/platenlaw17.ZlibSpoilt", spec := "zlibSpoilt", unfollowed := true, recurses := true, named := ["platen/parse.levels", "platen/symbol.lengths", "platen/symbol.distances", "platen/runs.says", "platen/zlib.levels"], plainKeys := false, apart := false, laid := [("platen/parse.levels", laid_platen_parse_levels), ("platen/runs.says", laid_platen_runs_says), ("platen/symbol.lengths", laid_platen_symbol_lengths), ("platen/symbol.distances", laid_platen_symbol_distances), ("platen/zlib.levels", laid_platen_zlib_levels)], narrowed := true }
def ZlibSpoiltUptoSaid : Prop := zlibSpoiltUptoRow.holds Tryz.pinned (OpenSpec.upto zlibSpoiltSpec)

/-- 'platenlaw17.ZlibBack', WHERE WHAT IT READS IS OF BULK AT MOST 1048576: true; the input reads as it did. -/
def zlibBackUptoRow : OpenClaim := { program := "ytdpabanajgegjaagreatdoor", sum := "cbfdc72629233c10f3a32e46d3c147af44267618c03dc3f50074275f2b85b14b", func := "platen/platenlaw17.ZlibBack", spec := "zlibBack", unfollowed := true, recurses := true, named := ["platen/parse.levels", "platen/symbol.lengths", "platen/symbol.distances", "platen/runs.says", "platen/zlib.levels"], plainKeys := false, apart := false, laid := [("platen/parse.levels", laid_platen_parse_levels), ("platen/runs.says", laid_platen_runs_says), ("platen/symbol.lengths", laid_platen_symbol_lengths), ("platen/symbol.distances", laid_platen_symbol_distances), ("platen/zlib.levels", laid_platen_zlib_levels)], narrowed := true }
def ZlibBackUptoSaid : Prop := zlibBackUptoRow.holds Tryz.pinned (OpenSpec.upto zlibBackSpec)

end Rows
end Go.Proofs.YtdpabanajgegjaaGreatDoor
