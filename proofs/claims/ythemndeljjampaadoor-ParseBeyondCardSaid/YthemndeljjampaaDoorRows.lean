/-
  NARROWER THAN 'FOR EVERY INPUT', by the rows' own cells (each row's printed sentence says how): ParseTokens: laid · ParseBack: laid · ParseRuns: laid · ParseBeyond: laid.
  DERIVED. THE GIVEN ROWS OF THIS SEAT. 4 by the template 'for every input the law returns true; each argument reads behind the call as it read before'; 0 by the template 'total and deterministic' (their statements: YthemndeljjampaaDoorTotals.lean).
  GIVEN WITH THE SEED: the statements are not yours to turn. If you find one false, say at which input.
  Laid BY PROGRAM, IN A SANDBOX (cutbox-rows.mjs): the forced cells as the released guide's own fill.sh prints them over the translation 391471c928521e11… (all of the seat's roots in one cut). By AI agents, Wed Nov 11 2026. No macro, syntax, notation, axiom, sorry.
-/
import Derived.Test.YthemndeljjampaaDoorChecked
import GoSem.Claim
import GoSem.ClaimJoined
import GoSem.ClaimMapViews
import Derived.JoinedTies
import Derived.KernelRfl
namespace Go.Proofs.YthemndeljjampaaDoor
/- THE CELL 'sum', in the pinned program and in every row, IS THE sha256 OF THE DUMP (.gsa) THAT YthemndeljjampaaDoorProg.lean LOADS. Nothing in Lean hashes anything: it is a label: what it is worth is what the hold of that sum in a sandbox is worth. -/
noncomputable def Tryd.pinned : Pinned := { name := "ythemndeljjampaadoor", sum := "391471c928521e1106da889b3fb0fb72e7d9f628a3fcd927b239e2e51fecdf91", checked := Tryd.checked }
namespace Rows
def none {H : Type} : Left H := { results := [], args := [] }

/- WHAT THE LISTED PACKAGE-LEVEL VARIABLES READ AS WHEN THE CALL BEGINS. Each datum BY PROGRAM (the guide's laid-datum.mjs) off the statement by which the dump's own 'gosem.cut.vars' lays the variable. In a bare row this is a premise. The card (YthemndeljjampaaDoorCards.lean) ties it to the program's text. -/
def laid_platen_parse_levels {H : Type} : DataW H := .agg [.agg [.lit (.int .i64 0), .lit (.int .i64 0), .lit (.int .i64 0)], .agg [.lit (.int .i64 4), .lit (.int .i64 8), .lit (.int .i64 0)], .agg [.lit (.int .i64 8), .lit (.int .i64 16), .lit (.int .i64 0)], .agg [.lit (.int .i64 16), .lit (.int .i64 32), .lit (.int .i64 0)], .agg [.lit (.int .i64 8), .lit (.int .i64 16), .lit (.int .i64 4)], .agg [.lit (.int .i64 16), .lit (.int .i64 32), .lit (.int .i64 16)], .agg [.lit (.int .i64 64), .lit (.int .i64 128), .lit (.int .i64 16)], .agg [.lit (.int .i64 128), .lit (.int .i64 128), .lit (.int .i64 32)], .agg [.lit (.int .i64 512), .lit (.int .i64 258), .lit (.int .i64 128)], .agg [.lit (.int .i64 2048), .lit (.int .i64 258), .lit (.int .i64 258)]]

/-- 'platenlaw10.ParseTokens': WHATEVER THE INPUT: true; the input reads as it did. -/
def parseTokensSpec : ChangeSpec := { name := "parseTokens", fn := fun _ => fun
  | [d1, d2, d3] => { results := [.lit (.bool true)], args := [d1, d2, d3] }
  | _ => none }
def parseTokensRow : OpenClaim := { program := "ythemndeljjampaadoor", sum := "391471c928521e1106da889b3fb0fb72e7d9f628a3fcd927b239e2e51fecdf91", func := "platen/platenlaw10.ParseTokens", spec := "parseTokens", unfollowed := true, recurses := true, named := ["platen/parse.levels"], plainKeys := false, apart := false, laid := [("platen/parse.levels", laid_platen_parse_levels)] }
def ParseTokensSaid : Prop := parseTokensRow.holds Tryd.pinned (OpenSpec.ofChange parseTokensSpec)

/-- ITS FALSE NEIGHBOUR: 'it returns false'. Refute it at one input. -/
def parseTokensWrong : ChangeSpec := { name := "parseTokens", fn := fun _ => fun
  | [d1, d2, d3] => { results := [.lit (.bool false)], args := [d1, d2, d3] }
  | _ => none }
def ParseTokensWrongFalsely : Prop := parseTokensRow.holds Tryd.pinned (OpenSpec.ofChange parseTokensWrong)

/-- 'platenlaw10.ParseBack': WHATEVER THE INPUT: true; the input reads as it did. -/
def parseBackSpec : ChangeSpec := { name := "parseBack", fn := fun _ => fun
  | [d1, d2, d3] => { results := [.lit (.bool true)], args := [d1, d2, d3] }
  | _ => none }
def parseBackRow : OpenClaim := { program := "ythemndeljjampaadoor", sum := "391471c928521e1106da889b3fb0fb72e7d9f628a3fcd927b239e2e51fecdf91", func := "platen/platenlaw10.ParseBack", spec := "parseBack", unfollowed := true, recurses := true, named := ["platen/parse.levels"], plainKeys := false, apart := false, laid := [("platen/parse.levels", laid_platen_parse_levels)] }
def ParseBackSaid : Prop := parseBackRow.holds Tryd.pinned (OpenSpec.ofChange parseBackSpec)

/-- ITS FALSE NEIGHBOUR: 'it returns false'. Refute it at one input. -/
def parseBackWrong : ChangeSpec := { name := "parseBack", fn := fun _ => fun
  | [d1, d2, d3] => { results := [.lit (.bool false)], args := [d1, d2, d3] }
  | _ => none }
def ParseBackWrongFalsely : Prop := parseBackRow.holds Tryd.pinned (OpenSpec.ofChange parseBackWrong)

/-- 'platenlaw10.ParseRuns': WHATEVER THE INPUT: true; the input reads as it did. -/
def parseRunsSpec : ChangeSpec := { name := "parseRuns", fn := fun _ => fun
  | [d1, d2, d3] => { results := [.lit (.bool true)], args := [d1, d2, d3] }
  | _ => none }
def parseRunsRow : OpenClaim := { program := "ythemndeljjampaadoor", sum := "391471c928521e1106da889b3fb0fb72e7d9f628a3fcd927b239e2e51fecdf91", func := "platen/platenlaw10.ParseRuns", spec := "parseRuns", unfollowed := true, recurses := true, named := ["platen/parse.levels"], plainKeys := false, apart := false, laid := [("platen/parse.levels", laid_platen_parse_levels)] }
def ParseRunsSaid : Prop := parseRunsRow.holds Tryd.pinned (OpenSpec.ofChange parseRunsSpec)

/-- ITS FALSE NEIGHBOUR: 'it returns false'. Refute it at one input. -/
def parseRunsWrong : ChangeSpec := { name := "parseRuns", fn := fun _ => fun
  | [d1, d2, d3] => { results := [.lit (.bool false)], args := [d1, d2, d3] }
  | _ => none }
def ParseRunsWrongFalsely : Prop := parseRunsRow.holds Tryd.pinned (OpenSpec.ofChange parseRunsWrong)

/-- 'platenlaw10.ParseBeyond': WHATEVER THE INPUT: true; the input reads as it did. -/
def parseBeyondSpec : ChangeSpec := { name := "parseBeyond", fn := fun _ => fun
  | [d1, d2, d3, d4] => { results := [.lit (.bool true)], args := [d1, d2, d3, d4] }
  | _ => none }
def parseBeyondRow : OpenClaim := { program := "ythemndeljjampaadoor", sum := "391471c928521e1106da889b3fb0fb72e7d9f628a3fcd927b239e2e51fecdf91", func := "platen/platenlaw10.ParseBeyond", spec := "parseBeyond", unfollowed := true, recurses := true, named := ["platen/parse.levels"], plainKeys := false, apart := false, laid := [("platen/parse.levels", laid_platen_parse_levels)] }
def ParseBeyondSaid : Prop := parseBeyondRow.holds Tryd.pinned (OpenSpec.ofChange parseBeyondSpec)

/-- ITS FALSE NEIGHBOUR: 'it returns false'. Refute it at one input. -/
def parseBeyondWrong : ChangeSpec := { name := "parseBeyond", fn := fun _ => fun
  | [d1, d2, d3, d4] => { results := [.lit (.bool false)], args := [d1, d2, d3, d4] }
  | _ => none }
def ParseBeyondWrongFalsely : Prop := parseBeyondRow.holds Tryd.pinned (OpenSpec.ofChange parseBeyondWrong)

/- THE SECOND FORM. 'bulk': how many values and letters a reading holds, each counted each time it is reached (what is shared counts as often as it is met; a slice's spare places count too). A statement '..UptoSaid' is the law's where the arguments, and the package variables that the reading takes, are together of bulk at most 1048576: NARROWER than '..Said'. Prove '..Said' where nothing that the law and all that it calls make is longer than what came in: it says more and counts as full. Else prove '..UptoSaid'. A law counts once. -/
mutual
def uptoBulk {H : Type} : DataW H → Nat
  | .lit (.string bytes) => bytes.length + 1
  | .lit _ => 1
  | .nil => 1
  | .ptr d => uptoBulk d + 1
  | .slice elems spare => uptoBulkAll elems + uptoBulkAll spare + 1
  | .agg parts => uptoBulkAll parts + 1
  | .iface _ d => uptoBulk d + 1
  | .map entries => uptoBulkEntries entries + 1
  | .held _ => 1
def uptoBulkAll {H : Type} : List (DataW H) → Nat
  | [] => 0
  | d :: r => uptoBulk d + uptoBulkAll r
def uptoBulkEntries {H : Type} : List (Lit × DataW H) → Nat
  | [] => 0
  | x :: r => uptoBulkEntry x + uptoBulkEntries r
def uptoBulkEntry {H : Type} : Lit × DataW H → Nat
  | (.string bytes, d) => bytes.length + uptoBulk d + 1
  | (_, d) => uptoBulk d + 1
 end
def uptoSmall : (H : Type) → List (DataW H) → Bool := fun _ ds => decide (uptoBulkAll ds ≤ 1048576)
def OpenSpec.upto (s : _root_.Go.ChangeSpec) : _root_.Go.OpenSpec := { _root_.Go.OpenSpec.ofChange s with cond := some uptoSmall }

/-- 'platenlaw10.ParseTokens', WHERE WHAT IT READS IS OF BULK AT MOST 1048576: true; the input reads as it did. -/
def parseTokensUptoRow : OpenClaim := { program := "ythemndeljjampaadoor", sum := "391471c928521e1106da889b3fb0fb72e7d9f628a3fcd927b239e2e51fecdf91", func := "platen/platenlaw10.ParseTokens", spec := "parseTokens", unfollowed := true, recurses := true, named := ["platen/parse.levels"], plainKeys := false, apart := false, laid := [("platen/parse.levels", laid_platen_parse_levels)], narrowed := true }
def ParseTokensUptoSaid : Prop := parseTokensUptoRow.holds Tryd.pinned (OpenSpec.upto parseTokensSpec)

/-- 'platenlaw10.ParseBack', WHERE WHAT IT READS IS OF BULK AT MOST 1048576: true; the input reads as it did. -/
def parseBackUptoRow : OpenClaim := { program := "ythemndeljjampaadoor", sum := "391471c928521e1106da889b3fb0fb72e7d9f628a3fcd927b239e2e51fecdf91", func := "platen/platenlaw10.ParseBack", spec := "parseBack", unfollowed := true, recurses := true, named := ["platen/parse.levels"], plainKeys := false, apart := false, laid := [("platen/parse.levels", laid_platen_parse_levels)], narrowed := true }
def ParseBackUptoSaid : Prop := parseBackUptoRow.holds Tryd.pinned (OpenSpec.upto parseBackSpec)

/-- 'platenlaw10.ParseRuns', WHERE WHAT IT READS IS OF BULK AT MOST 1048576: true; the input reads as it did. -/
def parseRunsUptoRow : OpenClaim := { program := "ythemndeljjampaadoor", sum := "391471c928521e1106da889b3fb0fb72e7d9f628a3fcd927b239e2e51fecdf91", func := "platen/platenlaw10.ParseRuns", spec := "parseRuns", unfollowed := true, recurses := true, named := ["platen/parse.levels"], plainKeys := false, apart := false, laid := [("platen/parse.levels", laid_platen_parse_levels)], narrowed := true }
def ParseRunsUptoSaid : Prop := parseRunsUptoRow.holds Tryd.pinned (OpenSpec.upto parseRunsSpec)

/-- 'platenlaw10.ParseBeyond', WHERE WHAT IT READS IS OF BULK AT MOST 1048576: true; the input reads as it did. -/
def parseBeyondUptoRow : OpenClaim := { program := "ythemndeljjampaadoor", sum := "391471c928521e1106da889b3fb0fb72e7d9f628a3fcd927b239e2e51fecdf91", func := "platen/platenlaw10.ParseBeyond", spec := "parseBeyond", unfollowed := true, recurses := true, named := ["platen/parse.levels"], plainKeys := false, apart := false, laid := [("platen/parse.levels", laid_platen_parse_levels)], narrowed := true }
def ParseBeyondUptoSaid : Prop := parseBeyondUptoRow.holds Tryd.pinned (OpenSpec.upto parseBeyondSpec)

end Rows
end Go.Proofs.YthemndeljjampaaDoor
