/-
  NARROWER THAN 'FOR EVERY INPUT', by the rows' own cells (each row's printed sentence says how): ZlibReads: laid · ZlibSpoilt: laid · ZlibBack: laid · ImageHeads: laid · ImageMakes: laid · ImageReads: laid.
  DERIVED. THE GIVEN ROWS OF THIS SEAT. 6 by the template 'for every input the law returns true; each argument reads behind the call as it read before'; 0 by the template 'total and deterministic' (their statements: YthgilhebnlglkaaGreatDoorTotals.lean).
  GIVEN WITH THE SEED: the statements are not yours to turn. If you find one false, say at which input.
  Laid BY PROGRAM, IN A SANDBOX (cutbox-rows.mjs): the forced cells as the released guide's own fill.sh prints them over the translation 3cf491fc5e7a60f3… (all of the seat's roots in one cut). By AI agents, Wed Nov 11 2026. No macro, syntax, notation, axiom, sorry.
-/
import Derived.Test.YthgilhebnlglkaaGreatDoorChecked
import GoSem.Claim
import GoSem.ClaimJoined
import GoSem.ClaimMapViews
import Derived.JoinedTies
import Derived.KernelRfl
namespace Go.Proofs.YthgilhebnlglkaaGreatDoor
/- THE CELL 'sum', in the pinned program and in every row, IS THE sha256 OF THE DUMP (.gsa) THAT YthgilhebnlglkaaGreatDoorProg.lean LOADS. Nothing in Lean hashes anything: it is a label: what it is worth is what the hold of that sum in a sandbox is worth. -/
noncomputable def Tryz.pinned : Pinned := { name := "ythgilhebnlglkaagreatdoor", sum := "3cf491fc5e7a60f3f3126548a177b31401646fb078016dfb5b09b9a6b86afd0d", checked := Tryz.checked }
namespace Rows
def none {H : Type} : Left H := { results := [], args := [] }

/- WHAT THE LISTED PACKAGE-LEVEL VARIABLES READ AS WHEN THE CALL BEGINS. Each datum BY PROGRAM (the guide's laid-datum.mjs) off the statement by which the dump's own 'gosem.cut.vars' lays the variable. In a bare row this is a premise. The card (YthgilhebnlglkaaGreatDoorCards.lean) ties it to the program's text. -/
def laid_platen_parse_levels {H : Type} : DataW H := .agg [.agg [.lit (.int .i64 0), .lit (.int .i64 0), .lit (.int .i64 0)], .agg [.lit (.int .i64 4), .lit (.int .i64 8), .lit (.int .i64 0)], .agg [.lit (.int .i64 8), .lit (.int .i64 16), .lit (.int .i64 0)], .agg [.lit (.int .i64 16), .lit (.int .i64 32), .lit (.int .i64 0)], .agg [.lit (.int .i64 8), .lit (.int .i64 16), .lit (.int .i64 4)], .agg [.lit (.int .i64 16), .lit (.int .i64 32), .lit (.int .i64 16)], .agg [.lit (.int .i64 64), .lit (.int .i64 128), .lit (.int .i64 16)], .agg [.lit (.int .i64 128), .lit (.int .i64 128), .lit (.int .i64 32)], .agg [.lit (.int .i64 512), .lit (.int .i64 258), .lit (.int .i64 128)], .agg [.lit (.int .i64 2048), .lit (.int .i64 258), .lit (.int .i64 258)]]
def laid_platen_runs_says {H : Type} : DataW H := .agg [.agg [.lit (.int .i64 1), .lit (.int .i64 0)], .agg [.lit (.int .i64 1), .lit (.int .i64 0)], .agg [.lit (.int .i64 1), .lit (.int .i64 0)], .agg [.lit (.int .i64 1), .lit (.int .i64 0)], .agg [.lit (.int .i64 1), .lit (.int .i64 0)], .agg [.lit (.int .i64 1), .lit (.int .i64 0)], .agg [.lit (.int .i64 1), .lit (.int .i64 0)], .agg [.lit (.int .i64 1), .lit (.int .i64 0)], .agg [.lit (.int .i64 1), .lit (.int .i64 0)], .agg [.lit (.int .i64 1), .lit (.int .i64 0)], .agg [.lit (.int .i64 1), .lit (.int .i64 0)], .agg [.lit (.int .i64 1), .lit (.int .i64 0)], .agg [.lit (.int .i64 1), .lit (.int .i64 0)], .agg [.lit (.int .i64 1), .lit (.int .i64 0)], .agg [.lit (.int .i64 1), .lit (.int .i64 0)], .agg [.lit (.int .i64 1), .lit (.int .i64 0)], .agg [.lit (.int .i64 3), .lit (.int .i64 2)], .agg [.lit (.int .i64 3), .lit (.int .i64 3)], .agg [.lit (.int .i64 11), .lit (.int .i64 7)]]
def laid_platen_symbol_lengths {H : Type} : DataW H := .agg [.lit (.int .i64 257), .lit (.int .i64 28), .lit (.int .i64 3), .lit (.int .i64 257), .lit (.int .i64 2)]
def laid_platen_symbol_distances {H : Type} : DataW H := .agg [.lit (.int .i64 0), .lit (.int .i64 30), .lit (.int .i64 1), .lit (.int .i64 32768), .lit (.int .i64 1)]
def laid_platen_zlib_levels {H : Type} : DataW H := .agg [.lit (.int .u8 0), .lit (.int .u8 0), .lit (.int .u8 1), .lit (.int .u8 1), .lit (.int .u8 1), .lit (.int .u8 1), .lit (.int .u8 2), .lit (.int .u8 3), .lit (.int .u8 3), .lit (.int .u8 3)]

/-- 'platenlaw17.ZlibReads': WHATEVER THE INPUT: true; the input reads as it did. -/
def zlibReadsSpec : ChangeSpec := { name := "zlibReads", fn := fun _ => fun
  | [d1, d2, d3] => { results := [.lit (.bool true)], args := [d1, d2, d3] }
  | _ => none }
def zlibReadsRow : OpenClaim := { program := "ythgilhebnlglkaagreatdoor", sum := "3cf491fc5e7a60f3f3126548a177b31401646fb078016dfb5b09b9a6b86afd0d", func := "platen/platenlaw17.ZlibReads", spec := "zlibReads", unfollowed := true, recurses := true, named := ["platen/parse.levels", "platen/symbol.lengths", "platen/symbol.distances", "platen/runs.says", "platen/zlib.levels"], plainKeys := false, apart := false, laid := [("platen/parse.levels", laid_platen_parse_levels), ("platen/runs.says", laid_platen_runs_says), ("platen/symbol.lengths", laid_platen_symbol_lengths), ("platen/symbol.distances", laid_platen_symbol_distances), ("platen/zlib.levels", laid_platen_zlib_levels)] }
def ZlibReadsSaid : Prop := zlibReadsRow.holds Tryz.pinned (OpenSpec.ofChange zlibReadsSpec)

/-- ITS FALSE NEIGHBOUR: 'it returns false'. Refute it at one input. -/
def zlibReadsWrong : ChangeSpec := { name := "zlibReads", fn := fun _ => fun
  | [d1, d2, d3] => { results := [.lit (.bool false)], args := [d1, d2, d3] }
  | _ => none }
def ZlibReadsWrongFalsely : Prop := zlibReadsRow.holds Tryz.pinned (OpenSpec.ofChange zlibReadsWrong)

/-- 'platenlaw17.ZlibSpoilt': WHATEVER THE INPUT: true; the input reads as it did. -/
def zlibSpoiltSpec : ChangeSpec := { name := "zlibSpoilt", fn := fun _ => fun
  | [d1, d2, d3, d4, d5, d6, d7] => { results := [.lit (.bool true)], args := [d1, d2, d3, d4, d5, d6, d7] }
  | _ => none }
def zlibSpoiltRow : OpenClaim := { program := "ythgilhebnlglkaagreatdoor", sum := "3cf491fc5e7a60f3f3126548a177b31401646fb078016dfb5b09b9a6b86afd0d", func := "platen/platenlaw17.ZlibSpoilt", spec := "zlibSpoilt", unfollowed := true, recurses := true, named := ["platen/parse.levels", "platen/symbol.lengths", "platen/symbol.distances", "platen/runs.says", "platen/zlib.levels"], plainKeys := false, apart := false, laid := [("platen/parse.levels", laid_platen_parse_levels), ("platen/runs.says", laid_platen_runs_says), ("platen/symbol.lengths", laid_platen_symbol_lengths), ("platen/symbol.distances", laid_platen_symbol_distances), ("platen/zlib.levels", laid_platen_zlib_levels)] }
def ZlibSpoiltSaid : Prop := zlibSpoiltRow.holds Tryz.pinned (OpenSpec.ofChange zlibSpoiltSpec)

/-- ITS FALSE NEIGHBOUR: 'it returns false'. Refute it at one input. -/
def zlibSpoiltWrong : ChangeSpec := { name := "zlibSpoilt", fn := fun _ => fun
  | [d1, d2, d3, d4, d5, d6, d7] => { results := [.lit (.bool false)], args := [d1, d2, d3, d4, d5, d6, d7] }
  | _ => none }
def ZlibSpoiltWrongFalsely : Prop := zlibSpoiltRow.holds Tryz.pinned (OpenSpec.ofChange zlibSpoiltWrong)

/-- 'platenlaw17.ZlibBack': WHATEVER THE INPUT: true; the input reads as it did. -/
def zlibBackSpec : ChangeSpec := { name := "zlibBack", fn := fun _ => fun
  | [d1, d2, d3, d4, d5, d6] => { results := [.lit (.bool true)], args := [d1, d2, d3, d4, d5, d6] }
  | _ => none }
def zlibBackRow : OpenClaim := { program := "ythgilhebnlglkaagreatdoor", sum := "3cf491fc5e7a60f3f3126548a177b31401646fb078016dfb5b09b9a6b86afd0d", func := "platen/platenlaw17.ZlibBack", spec := "zlibBack", unfollowed := true, recurses := true, named := ["platen/parse.levels", "platen/symbol.lengths", "platen/symbol.distances", "platen/runs.says", "platen/zlib.levels"], plainKeys := false, apart := false, laid := [("platen/parse.levels", laid_platen_parse_levels), ("platen/runs.says", laid_platen_runs_says), ("platen/symbol.lengths", laid_platen_symbol_lengths), ("platen/symbol.distances", laid_platen_symbol_distances), ("platen/zlib.levels", laid_platen_zlib_levels)] }
def ZlibBackSaid : Prop := zlibBackRow.holds Tryz.pinned (OpenSpec.ofChange zlibBackSpec)

/-- ITS FALSE NEIGHBOUR: 'it returns false'. Refute it at one input. -/
def zlibBackWrong : ChangeSpec := { name := "zlibBack", fn := fun _ => fun
  | [d1, d2, d3, d4, d5, d6] => { results := [.lit (.bool false)], args := [d1, d2, d3, d4, d5, d6] }
  | _ => none }
def ZlibBackWrongFalsely : Prop := zlibBackRow.holds Tryz.pinned (OpenSpec.ofChange zlibBackWrong)

/-- 'platenlaw19.ImageHeads': WHATEVER THE INPUT: true; the input reads as it did. -/
def imageHeadsSpec : ChangeSpec := { name := "imageHeads", fn := fun _ => fun
  | [d1, d2] => { results := [.lit (.bool true)], args := [d1, d2] }
  | _ => none }
def imageHeadsRow : OpenClaim := { program := "ythgilhebnlglkaagreatdoor", sum := "3cf491fc5e7a60f3f3126548a177b31401646fb078016dfb5b09b9a6b86afd0d", func := "platen/platenlaw19.ImageHeads", spec := "imageHeads", unfollowed := true, recurses := true, named := ["platen/parse.levels", "platen/symbol.lengths", "platen/symbol.distances", "platen/runs.says", "platen/zlib.levels"], plainKeys := false, apart := false, laid := [("platen/parse.levels", laid_platen_parse_levels), ("platen/runs.says", laid_platen_runs_says), ("platen/symbol.lengths", laid_platen_symbol_lengths), ("platen/symbol.distances", laid_platen_symbol_distances), ("platen/zlib.levels", laid_platen_zlib_levels)] }
def ImageHeadsSaid : Prop := imageHeadsRow.holds Tryz.pinned (OpenSpec.ofChange imageHeadsSpec)

/-- ITS FALSE NEIGHBOUR: 'it returns false'. Refute it at one input. -/
def imageHeadsWrong : ChangeSpec := { name := "imageHeads", fn := fun _ => fun
  | [d1, d2] => { results := [.lit (.bool false)], args := [d1, d2] }
  | _ => none }
def ImageHeadsWrongFalsely : Prop := imageHeadsRow.holds Tryz.pinned (OpenSpec.ofChange imageHeadsWrong)

/-- 'platenlaw19.ImageMakes': WHATEVER THE INPUT: true; the input reads as it did. -/
def imageMakesSpec : ChangeSpec := { name := "imageMakes", fn := fun _ => fun
  | [d1, d2, d3, d4, d5, d6] => { results := [.lit (.bool true)], args := [d1, d2, d3, d4, d5, d6] }
  | _ => none }
def imageMakesRow : OpenClaim := { program := "ythgilhebnlglkaagreatdoor", sum := "3cf491fc5e7a60f3f3126548a177b31401646fb078016dfb5b09b9a6b86afd0d", func := "platen/platenlaw19.ImageMakes", spec := "imageMakes", unfollowed := true, recurses := true, named := ["platen/parse.levels", "platen/symbol.lengths", "platen/symbol.distances", "platen/runs.says", "platen/zlib.levels"], plainKeys := false, apart := false, laid := [("platen/parse.levels", laid_platen_parse_levels), ("platen/runs.says", laid_platen_runs_says), ("platen/symbol.lengths", laid_platen_symbol_lengths), ("platen/symbol.distances", laid_platen_symbol_distances), ("platen/zlib.levels", laid_platen_zlib_levels)] }
def ImageMakesSaid : Prop := imageMakesRow.holds Tryz.pinned (OpenSpec.ofChange imageMakesSpec)

/-- ITS FALSE NEIGHBOUR: 'it returns false'. Refute it at one input. -/
def imageMakesWrong : ChangeSpec := { name := "imageMakes", fn := fun _ => fun
  | [d1, d2, d3, d4, d5, d6] => { results := [.lit (.bool false)], args := [d1, d2, d3, d4, d5, d6] }
  | _ => none }
def ImageMakesWrongFalsely : Prop := imageMakesRow.holds Tryz.pinned (OpenSpec.ofChange imageMakesWrong)

/-- 'platenlaw19.ImageReads': WHATEVER THE INPUT: true; the input reads as it did. -/
def imageReadsSpec : ChangeSpec := { name := "imageReads", fn := fun _ => fun
  | [d1, d2, d3] => { results := [.lit (.bool true)], args := [d1, d2, d3] }
  | _ => none }
def imageReadsRow : OpenClaim := { program := "ythgilhebnlglkaagreatdoor", sum := "3cf491fc5e7a60f3f3126548a177b31401646fb078016dfb5b09b9a6b86afd0d", func := "platen/platenlaw19.ImageReads", spec := "imageReads", unfollowed := true, recurses := true, named := ["platen/parse.levels", "platen/symbol.lengths", "platen/symbol.distances", "platen/runs.says", "platen/zlib.levels"], plainKeys := false, apart := false, laid := [("platen/parse.levels", laid_platen_parse_levels), ("platen/runs.says", laid_platen_runs_says), ("platen/symbol.lengths", laid_platen_symbol_lengths), ("platen/symbol.distances", laid_platen_symbol_distances), ("platen/zlib.levels", laid_platen_zlib_levels)] }
def ImageReadsSaid : Prop := imageReadsRow.holds Tryz.pinned (OpenSpec.ofChange imageReadsSpec)

/-- ITS FALSE NEIGHBOUR: 'it returns false'. Refute it at one input. -/
def imageReadsWrong : ChangeSpec := { name := "imageReads", fn := fun _ => fun
  | [d1, d2, d3] => { results := [.lit (.bool false)], args := [d1, d2, d3] }
  | _ => none }
def ImageReadsWrongFalsely : Prop := imageReadsRow.holds Tryz.pinned (OpenSpec.ofChange imageReadsWrong)

/- THE SECOND FORM. 'bulk': how many values and letters a reading holds, each counted each time it is reached (what is shared counts as often as it is met; a slice's spare places count too). A statement '..UptoSaid' is the law's where the arguments, and the package variables that the reading takes, are together of bulk at most 1048576: NARROWER than '..Said'. Prove '..Said' where nothing that the law and all that it calls make is longer than what came in: it says more and counts as full. Else prove '..UptoSaid'. A law counts once. -/
mutual
def uptoBulk {H : Type} : DataW H → Nat
  | .lit (.string bytes) => bytes.length + 1
  | .lit _ => 1
  | .nil => 1
  | .ptr d => uptoBulk d + 1
  | .slice elems spare => uptoBulkAll elems + uptoBulkAll spare + 1
  | .agg parts => uptoBulkAll parts + 1
  | .iface _ d => uptoBulk d + 1
  | .map entries => uptoBulkEntries entries + 1
  | .held _ => 1
def uptoBulkAll {H : Type} : List (DataW H) → Nat
  | [] => 0
  | d :: r => uptoBulk d + uptoBulkAll r
def uptoBulkEntries {H : Type} : List (Lit × DataW H) → Nat
  | [] => 0
  | x :: r => uptoBulkEntry x + uptoBulkEntries r
def uptoBulkEntry {H : Type} : Lit × DataW H → Nat
  | (.string bytes, d) => bytes.length + uptoBulk d + 1
  | (_, d) => uptoBulk d + 1
 end
def uptoSmall : (H : Type) → List (DataW H) → Bool := fun _ ds => decide (uptoBulkAll ds ≤ 1048576)
def OpenSpec.upto (s : _root_.Go.ChangeSpec) : _root_.Go.OpenSpec := { _root_.Go.OpenSpec.ofChange s with cond := some uptoSmall }

/-- 'platenlaw17.ZlibReads', WHERE WHAT IT READS IS OF BULK AT MOST 1048576: true; the input reads as it did. -/
def zlibReadsUptoRow : OpenClaim := { program := "ythgilhebnlglkaagreatdoor", sum := "3cf491fc5e7a60f3f3126548a177b31401646fb078016dfb5b09b9a6b86afd0d", func := "platen/platenlaw17.ZlibReads", spec := "zlibReads", unfollowed := true, recurses := true, named := ["platen/parse.levels", "platen/symbol.lengths", "platen/symbol.distances", "platen/runs.says", "platen/zlib.levels"], plainKeys := false, apart := false, laid := [("platen/parse.levels", laid_platen_parse_levels), ("platen/runs.says", laid_platen_runs_says), ("platen/symbol.lengths", laid_platen_symbol_lengths), ("platen/symbol.distances", laid_platen_symbol_distances), ("platen/zlib.levels", laid_platen_zlib_levels)], narrowed := true }
def ZlibReadsUptoSaid : Prop := zlibReadsUptoRow.holds Tryz.pinned (OpenSpec.upto zlibReadsSpec)

/-- 'platenlaw17.ZlibSpoilt', WHERE WHAT IT READS IS OF BULK AT MOST 1048576: true; the input reads as it did. -/
def zlibSpoiltUptoRow : OpenClaim := { program := "ythgilhebnlglkaagreatdoor", sum := "3cf491fc5e7a60f3f3126548a177b31401646fb078016dfb5b09b9a6b86afd0d", func := "platen/platenlaw17.ZlibSpoilt", spec := "zlibSpoilt", unfollowed := true, recurses := true, named := ["platen/parse.levels", "platen/symbol.lengths", "platen/symbol.distances", "platen/runs.says", "platen/zlib.levels"], plainKeys := false, apart := false, laid := [("platen/parse.levels", laid_platen_parse_levels), ("platen/runs.says", laid_platen_runs_says), ("platen/symbol.lengths", laid_platen_symbol_lengths), ("platen/symbol.distances", laid_platen_symbol_distances), ("platen/zlib.levels", laid_platen_zlib_levels)], narrowed := true }
def ZlibSpoiltUptoSaid : Prop := zlibSpoiltUptoRow.holds Tryz.pinned (OpenSpec.upto zlibSpoiltSpec)

/-- 'platenlaw17.ZlibBack', WHERE WHAT IT READS IS OF BULK AT MOST 1048576: true; the input reads as it did. -/
def zlibBackUptoRow : OpenClaim := { program := "ythgilhebnlglkaagreatdoor", sum := "3cf491fc5e7a60f3f3126548a177b31401646fb078016dfb5b09b9a6b86afd0d", func := "platen/platenlaw17.ZlibBack", spec := "zlibBack", unfollowed := true, recurses := true, named := ["platen/parse.levels", "platen/symbol.lengths", "platen/symbol.distances", "platen/runs.says", "platen/zlib.levels"], plainKeys := false, apart := false, laid := [("platen/parse.levels", laid_platen_parse_levels), ("platen/runs.says", laid_platen_runs_says), ("platen/symbol.lengths", laid_platen_symbol_lengths), ("platen/symbol.distances", laid_platen_symbol_distances), ("platen/zlib.levels", laid_platen_zlib_levels)], narrowed := true }
def ZlibBackUptoSaid : Prop := zlibBackUptoRow.holds Tryz.pinned (OpenSpec.upto zlibBackSpec)

/-- 'platenlaw19.ImageHeads', WHERE WHAT IT READS IS OF BULK AT MOST 1048576: true; the input reads as it did. -/
def imageHeadsUptoRow : OpenClaim := { program := "ythgilhebnlglkaagreatdoor", sum := "3cf491fc5e7a60f3f3126548a177b31401646fb078016dfb5b09b9a6b86afd0d", func := "platen/platenlaw19.ImageHeads", spec := "imageHeads", unfollowed := true, recurses := true, named := ["platen/parse.levels", "platen/symbol.lengths", "platen/symbol.distances", "platen/runs.says", "platen/zlib.levels"], plainKeys := false, apart := false, laid := [("platen/parse.levels", laid_platen_parse_levels), ("platen/runs.says", laid_platen_runs_says), ("platen/symbol.lengths", laid_platen_symbol_lengths), ("platen/symbol.distances", laid_platen_symbol_distances), ("platen/zlib.levels", laid_platen_zlib_levels)], narrowed := true }
def ImageHeadsUptoSaid : Prop := imageHeadsUptoRow.holds Tryz.pinned (OpenSpec.upto imageHeadsSpec)

/-- 'platenlaw19.ImageMakes', WHERE WHAT IT READS IS OF BULK AT MOST 1048576: true; the input reads as it did. -/
def imageMakesUptoRow : OpenClaim := { program := "ythgilhebnlglkaagreatdoor", sum := "3cf491fc5e7a60f3f3126548a177b31401646fb078016dfb5b09b9a6b86afd0d", func := "platen/platenlaw19.ImageMakes", spec := "imageMakes", unfollowed := true, recurses := true, named := ["platen/parse.levels", "platen/symbol.lengths", "platen/symbol.distances", "platen/runs.says", "platen/zlib.levels"], plainKeys := false, apart := false, laid := [("platen/parse.levels", laid_platen_parse_levels), ("platen/runs.says", laid_platen_runs_says), ("platen/symbol.lengths", laid_platen_symbol_lengths), ("platen/symbol.distances", laid_platen_symbol_distances), ("platen/zlib.levels", laid_platen_zlib_levels)], narrowed := true }
def ImageMakesUptoSaid : Prop := imageMakesUptoRow.holds Tryz.pinned (OpenSpec.upto imageMakesSpec)

/-- 'platenlaw19.ImageReads', WHERE WHAT IT READS IS OF BULK AT MOST 1048576: true; the input reads as it did. -/
def imageReadsUptoRow : OpenClaim := { program := "ythgilhebnlglkaagreatdoor", sum := "3cf491fc5e7a60f3f3126548a177b31401646fb078016dfb5b09b9a6b86afd0d", func := "platen/platenlaw19.ImageReads", spec := "imageReads", unfollowed := true, recurses := true, named := ["platen/parse.levels", "platen/symbol.lengths", "platen/symbol.distances", "platen/runs.says", "platen/zlib.levels"], plainKeys := false, apart := false, laid := [("platen/parse.levels", laid_platen_parse_levels), ("platen/runs.says", laid_platen_runs_says), ("platen/symbol.lengths", laid_platen_symbol_lengths), ("platen/symbol.distances", laid_platen_symbol_distances), ("platen/zlib.levels", laid_platen_zlib_levels)], narrowed := true }
def ImageReadsUptoSaid : Prop := imageReadsUptoRow.holds Tryz.pinned (OpenSpec.upto imageReadsSpec)

end Rows
end Go.Proofs.YthgilhebnlglkaaGreatDoor
