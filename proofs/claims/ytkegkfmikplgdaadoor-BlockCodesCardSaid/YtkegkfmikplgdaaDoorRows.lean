/-
  NARROWER THAN 'FOR EVERY INPUT', by the rows' own cells (each row's printed sentence says how): BlockCodes: laid · BlockBest: laid · BlockWhere: laid.
  DERIVED. THE GIVEN ROWS OF THIS SEAT. 3 by the template 'for every input the law returns true; each argument reads behind the call as it read before'; 0 by the template 'total and deterministic' (their statements: YtkegkfmikplgdaaDoorTotals.lean).
  GIVEN WITH THE SEED: the statements are not yours to turn. If you find one false, say at which input.
  Laid BY PROGRAM, IN A SANDBOX (cutbox-rows.mjs): the forced cells as the released guide's own fill.sh prints them over the translation 00f8a93d3523b885… (all of the seat's roots in one cut). By AI agents, Wed Nov 11 2026. No macro, syntax, notation, axiom, sorry.
-/
import Derived.Test.YtkegkfmikplgdaaDoorChecked
import GoSem.Claim
import GoSem.ClaimJoined
import GoSem.ClaimMapViews
import Derived.JoinedTies
import Derived.KernelRfl
namespace Go.Proofs.YtkegkfmikplgdaaDoor
/- THE CELL 'sum', in the pinned program and in every row, IS THE sha256 OF THE DUMP (.gsa) THAT YtkegkfmikplgdaaDoorProg.lean LOADS. Nothing in Lean hashes anything: it is a label: what it is worth is what the hold of that sum in a sandbox is worth. -/
noncomputable def Tryd.pinned : Pinned := { name := "ytkegkfmikplgdaadoor", sum := "00f8a93d3523b88597e8ec6cac94067d78fabcc730e7cf940cc458f589602cdd", checked := Tryd.checked }
namespace Rows
def none {H : Type} : Left H := { results := [], args := [] }

/- WHAT THE LISTED PACKAGE-LEVEL VARIABLES READ AS WHEN THE CALL BEGINS. Each datum BY PROGRAM (the guide's laid-datum.mjs) off the statement by which the dump's own 'gosem.cut.vars' lays the variable. In a bare row this is a premise. The card (YtkegkfmikplgdaaDoorCards.lean) ties it to the program's text. -/
def laid_platen_runs_says {H : Type} : DataW H := .agg [.agg [.lit (.int .i64 1), .lit (.int .i64 0)], .agg [.lit (.int .i64 1), .lit (.int .i64 0)], .agg [.lit (.int .i64 1), .lit (.int .i64 0)], .agg [.lit (.int .i64 1), .lit (.int .i64 0)], .agg [.lit (.int .i64 1), .lit (.int .i64 0)], .agg [.lit (.int .i64 1), .lit (.int .i64 0)], .agg [.lit (.int .i64 1), .lit (.int .i64 0)], .agg [.lit (.int .i64 1), .lit (.int .i64 0)], .agg [.lit (.int .i64 1), .lit (.int .i64 0)], .agg [.lit (.int .i64 1), .lit (.int .i64 0)], .agg [.lit (.int .i64 1), .lit (.int .i64 0)], .agg [.lit (.int .i64 1), .lit (.int .i64 0)], .agg [.lit (.int .i64 1), .lit (.int .i64 0)], .agg [.lit (.int .i64 1), .lit (.int .i64 0)], .agg [.lit (.int .i64 1), .lit (.int .i64 0)], .agg [.lit (.int .i64 1), .lit (.int .i64 0)], .agg [.lit (.int .i64 3), .lit (.int .i64 2)], .agg [.lit (.int .i64 3), .lit (.int .i64 3)], .agg [.lit (.int .i64 11), .lit (.int .i64 7)]]
def laid_platen_symbol_lengths {H : Type} : DataW H := .agg [.lit (.int .i64 257), .lit (.int .i64 28), .lit (.int .i64 3), .lit (.int .i64 257), .lit (.int .i64 2)]
def laid_platen_symbol_distances {H : Type} : DataW H := .agg [.lit (.int .i64 0), .lit (.int .i64 30), .lit (.int .i64 1), .lit (.int .i64 32768), .lit (.int .i64 1)]

/-- 'platenlaw13.BlockCodes': WHATEVER THE INPUT: true; the input reads as it did. -/
def blockCodesSpec : ChangeSpec := { name := "blockCodes", fn := fun _ => fun
  | [d] => { results := [.lit (.bool true)], args := [d] }
  | _ => none }
def blockCodesRow : OpenClaim := { program := "ytkegkfmikplgdaadoor", sum := "00f8a93d3523b88597e8ec6cac94067d78fabcc730e7cf940cc458f589602cdd", func := "platen/platenlaw13.BlockCodes", spec := "blockCodes", unfollowed := true, recurses := true, named := ["platen/symbol.lengths", "platen/symbol.distances", "platen/runs.says"], apart := false, laid := [("platen/runs.says", laid_platen_runs_says), ("platen/symbol.lengths", laid_platen_symbol_lengths), ("platen/symbol.distances", laid_platen_symbol_distances)] }
def BlockCodesSaid : Prop := blockCodesRow.holds Tryd.pinned (OpenSpec.ofChange blockCodesSpec)

/-- ITS FALSE NEIGHBOUR: 'it returns false'. Refute it at one input. -/
def blockCodesWrong : ChangeSpec := { name := "blockCodes", fn := fun _ => fun
  | [d] => { results := [.lit (.bool false)], args := [d] }
  | _ => none }
def BlockCodesWrongFalsely : Prop := blockCodesRow.holds Tryd.pinned (OpenSpec.ofChange blockCodesWrong)

/-- 'platenlaw13.BlockBest': WHATEVER THE INPUT: true; the input reads as it did. -/
def blockBestSpec : ChangeSpec := { name := "blockBest", fn := fun _ => fun
  | [d1, d2] => { results := [.lit (.bool true)], args := [d1, d2] }
  | _ => none }
def blockBestRow : OpenClaim := { program := "ytkegkfmikplgdaadoor", sum := "00f8a93d3523b88597e8ec6cac94067d78fabcc730e7cf940cc458f589602cdd", func := "platen/platenlaw13.BlockBest", spec := "blockBest", unfollowed := true, recurses := true, named := ["platen/symbol.lengths", "platen/symbol.distances", "platen/runs.says"], apart := false, laid := [("platen/runs.says", laid_platen_runs_says), ("platen/symbol.lengths", laid_platen_symbol_lengths), ("platen/symbol.distances", laid_platen_symbol_distances)] }
def BlockBestSaid : Prop := blockBestRow.holds Tryd.pinned (OpenSpec.ofChange blockBestSpec)

/-- ITS FALSE NEIGHBOUR: 'it returns false'. Refute it at one input. -/
def blockBestWrong : ChangeSpec := { name := "blockBest", fn := fun _ => fun
  | [d1, d2] => { results := [.lit (.bool false)], args := [d1, d2] }
  | _ => none }
def BlockBestWrongFalsely : Prop := blockBestRow.holds Tryd.pinned (OpenSpec.ofChange blockBestWrong)

/-- 'platenlaw13.BlockWhere': WHATEVER THE INPUT: true; the input reads as it did. -/
def blockWhereSpec : ChangeSpec := { name := "blockWhere", fn := fun _ => fun
  | [d1, d2, d3, d4] => { results := [.lit (.bool true)], args := [d1, d2, d3, d4] }
  | _ => none }
def blockWhereRow : OpenClaim := { program := "ytkegkfmikplgdaadoor", sum := "00f8a93d3523b88597e8ec6cac94067d78fabcc730e7cf940cc458f589602cdd", func := "platen/platenlaw13.BlockWhere", spec := "blockWhere", unfollowed := true, recurses := true, named := ["platen/symbol.lengths", "platen/symbol.distances", "platen/runs.says"], apart := false, laid := [("platen/runs.says", laid_platen_runs_says), ("platen/symbol.lengths", laid_platen_symbol_lengths), ("platen/symbol.distances", laid_platen_symbol_distances)] }
def BlockWhereSaid : Prop := blockWhereRow.holds Tryd.pinned (OpenSpec.ofChange blockWhereSpec)

/-- ITS FALSE NEIGHBOUR: 'it returns false'. Refute it at one input. -/
def blockWhereWrong : ChangeSpec := { name := "blockWhere", fn := fun _ => fun
  | [d1, d2, d3, d4] => { results := [.lit (.bool false)], args := [d1, d2, d3, d4] }
  | _ => none }
def BlockWhereWrongFalsely : Prop := blockWhereRow.holds Tryd.pinned (OpenSpec.ofChange blockWhereWrong)

/- THE SECOND FORM. 'bulk': how many values and letters a reading holds, each counted each time it is reached (what is shared counts as often as it is met; a slice's spare places count too). A statement '..UptoSaid' is the law's where the arguments, and the package variables that the reading takes, are together of bulk at most 1048576: NARROWER than '..Said'. Prove '..Said' where nothing that the law and all that it calls make is longer than what came in: it says more and counts as full. Else prove '..UptoSaid'. A law counts once. -/
mutual
def uptoBulk {H : Type} : DataW H → Nat
  | .lit (.string bytes) => bytes.length + 1
  | .lit _ => 1
  | .nil => 1
  | .ptr d => uptoBulk d + 1
  | .slice elems spare => uptoBulkAll elems + uptoBulkAll spare + 1
  | .agg parts => uptoBulkAll parts + 1
  | .iface _ d => uptoBulk d + 1
  | .map entries => uptoBulkEntries entries + 1
  | .held _ => 1
def uptoBulkAll {H : Type} : List (DataW H) → Nat
  | [] => 0
  | d :: r => uptoBulk d + uptoBulkAll r
def uptoBulkEntries {H : Type} : List (Lit × DataW H) → Nat
  | [] => 0
  | x :: r => uptoBulkEntry x + uptoBulkEntries r
def uptoBulkEntry {H : Type} : Lit × DataW H → Nat
  | (.string bytes, d) => bytes.length + uptoBulk d + 1
  | (_, d) => uptoBulk d + 1
 end
def uptoSmall : (H : Type) → List (DataW H) → Bool := fun _ ds => decide (uptoBulkAll ds ≤ 1048576)
def OpenSpec.upto (s : _root_.Go.ChangeSpec) : _root_.Go.OpenSpec := { _root_.Go.OpenSpec.ofChange s with cond := some uptoSmall }

/-- 'platenlaw13.BlockCodes', WHERE WHAT IT READS IS OF BULK AT MOST 1048576: true; the input reads as it did. -/
def blockCodesUptoRow : OpenClaim := { program := "ytkegkfmikplgdaadoor", sum := "00f8a93d3523b88597e8ec6cac94067d78fabcc730e7cf940cc458f589602cdd", func := "platen/platenlaw13.BlockCodes", spec := "blockCodes", unfollowed := true, recurses := true, named := ["platen/symbol.lengths", "platen/symbol.distances", "platen/runs.says"], apart := false, laid := [("platen/runs.says", laid_platen_runs_says), ("platen/symbol.lengths", laid_platen_symbol_lengths), ("platen/symbol.distances", laid_platen_symbol_distances)], narrowed := true }
def BlockCodesUptoSaid : Prop := blockCodesUptoRow.holds Tryd.pinned (OpenSpec.upto blockCodesSpec)

/-- 'platenlaw13.BlockBest', WHERE WHAT IT READS IS OF BULK AT MOST 1048576: true; the input reads as it did. -/
def blockBestUptoRow : OpenClaim := { program := "ytkegkfmikplgdaadoor", sum := "00f8a93d3523b88597e8ec6cac94067d78fabcc730e7cf940cc458f589602cdd", func := "platen/platenlaw13.BlockBest", spec := "blockBest", unfollowed := true, recurses := true, named := ["platen/symbol.lengths", "platen/symbol.distances", "platen/runs.says"], apart := false, laid := [("platen/runs.says", laid_platen_runs_says), ("platen/symbol.lengths", laid_platen_symbol_lengths), ("platen/symbol.distances", laid_platen_symbol_distances)], narrowed := true }
def BlockBestUptoSaid : Prop := blockBestUptoRow.holds Tryd.pinned (OpenSpec.upto blockBestSpec)

/-- 'platenlaw13.BlockWhere', WHERE WHAT IT READS IS OF BULK AT MOST 1048576: true; the input reads as it did. -/
def blockWhereUptoRow : OpenClaim := { program := "ytkegkfmikplgdaadoor", sum := "00f8a93d3523b88597e8ec6cac94067d78fabcc730e7cf940cc458f589602cdd", func := "platen/platenlaw13.BlockWhere", spec := "blockWhere", unfollowed := true, recurses := true, named := ["platen/symbol.lengths", "platen/symbol.distances", "platen/runs.says"], apart := false, laid := [("platen/runs.says", laid_platen_runs_says), ("platen/symbol.lengths", laid_platen_symbol_lengths), ("platen/symbol.distances", laid_platen_symbol_distances)], narrowed := true }
def BlockWhereUptoSaid : Prop := blockWhereUptoRow.holds Tryd.pinned (OpenSpec.upto blockWhereSpec)

end Rows
end Go.Proofs.YtkegkfmikplgdaaDoor
