/-
  No cell of these rows narrows 'for every input' (looked for: loops, veiled, ifaces, maps, wideKeys, modest, calm, conditions, laid).
  DERIVED. THE GIVEN ROWS OF THIS SEAT. 5 by the template 'for every input the law returns true; each argument reads behind the call as it read before'; 0 by the template 'total and deterministic' (their statements: YtlikpljbbenmoaaTotals.lean).
  GIVEN WITH THE SEED: the statements are not yours to turn. If you find one false, say at which input.
  Laid BY PROGRAM, IN A SANDBOX (cutbox-rows.mjs): the forced cells as the released guide's own fill.sh prints them over the translation af4bb452a33756a4… (all of the seat's roots in one cut). By AI agents, Wed Nov 11 2026. No macro, syntax, notation, axiom, sorry.
-/
import Derived.Test.YtlikpljbbenmoaaChecked
import GoSem.Claim
import GoSem.ClaimJoined
import GoSem.ClaimMapViews
import Derived.JoinedTies
import Derived.KernelRfl
namespace Go.Proofs.Ytlikpljbbenmoaa
/- THE CELL 'sum', in the pinned program and in every row, IS THE sha256 OF THE DUMP (.gsa) THAT YtlikpljbbenmoaaProg.lean LOADS. Nothing in Lean hashes anything: it is a label: what it is worth is what the hold of that sum in a sandbox is worth. -/
noncomputable def Try.pinned : Pinned := { name := "ytlikpljbbenmoaa", sum := "af4bb452a33756a43d08b71abbb6b2706ab8ce71e2f425e39bfb78f5f8778e0c", checked := Try.checked }
namespace Rows
def none {H : Type} : Left H := { results := [], args := [] }

/-- 'platenlaw03.BitrPlays': WHATEVER THE INPUT: true; the input reads as it did. -/
def bitrPlaysSpec : ChangeSpec := { name := "bitrPlays", fn := fun _ => fun
  | [d1, d2] => { results := [.lit (.bool true)], args := [d1, d2] }
  | _ => none }
def bitrPlaysRow : OpenClaim := { program := "ytlikpljbbenmoaa", sum := "af4bb452a33756a43d08b71abbb6b2706ab8ce71e2f425e39bfb78f5f8778e0c", func := "platen/platenlaw03.BitrPlays", spec := "bitrPlays", apart := false }
def BitrPlaysSaid : Prop := bitrPlaysRow.holds Try.pinned (OpenSpec.ofChange bitrPlaysSpec)

/-- ITS FALSE NEIGHBOUR: 'it returns false'. Refute it at one input. -/
def bitrPlaysWrong : ChangeSpec := { name := "bitrPlays", fn := fun _ => fun
  | [d1, d2] => { results := [.lit (.bool false)], args := [d1, d2] }
  | _ => none }
def BitrPlaysWrongFalsely : Prop := bitrPlaysRow.holds Try.pinned (OpenSpec.ofChange bitrPlaysWrong)

/-- 'platenlaw03.BitrBack': WHATEVER THE INPUT: true; the input reads as it did. -/
def bitrBackSpec : ChangeSpec := { name := "bitrBack", fn := fun _ => fun
  | [d] => { results := [.lit (.bool true)], args := [d] }
  | _ => none }
def bitrBackRow : OpenClaim := { program := "ytlikpljbbenmoaa", sum := "af4bb452a33756a43d08b71abbb6b2706ab8ce71e2f425e39bfb78f5f8778e0c", func := "platen/platenlaw03.BitrBack", spec := "bitrBack", apart := false }
def BitrBackSaid : Prop := bitrBackRow.holds Try.pinned (OpenSpec.ofChange bitrBackSpec)

/-- ITS FALSE NEIGHBOUR: 'it returns false'. Refute it at one input. -/
def bitrBackWrong : ChangeSpec := { name := "bitrBack", fn := fun _ => fun
  | [d] => { results := [.lit (.bool false)], args := [d] }
  | _ => none }
def BitrBackWrongFalsely : Prop := bitrBackRow.holds Try.pinned (OpenSpec.ofChange bitrBackWrong)

/-- 'platenlaw03.BitrPieces': WHATEVER THE INPUT: true; the input reads as it did. -/
def bitrPiecesSpec : ChangeSpec := { name := "bitrPieces", fn := fun _ => fun
  | [d1, d2, d3, d4] => { results := [.lit (.bool true)], args := [d1, d2, d3, d4] }
  | _ => none }
def bitrPiecesRow : OpenClaim := { program := "ytlikpljbbenmoaa", sum := "af4bb452a33756a43d08b71abbb6b2706ab8ce71e2f425e39bfb78f5f8778e0c", func := "platen/platenlaw03.BitrPieces", spec := "bitrPieces", apart := false }
def BitrPiecesSaid : Prop := bitrPiecesRow.holds Try.pinned (OpenSpec.ofChange bitrPiecesSpec)

/-- ITS FALSE NEIGHBOUR: 'it returns false'. Refute it at one input. -/
def bitrPiecesWrong : ChangeSpec := { name := "bitrPieces", fn := fun _ => fun
  | [d1, d2, d3, d4] => { results := [.lit (.bool false)], args := [d1, d2, d3, d4] }
  | _ => none }
def BitrPiecesWrongFalsely : Prop := bitrPiecesRow.holds Try.pinned (OpenSpec.ofChange bitrPiecesWrong)

/-- 'platenlaw03.BitrNil': WHATEVER THE INPUT: true; the input reads as it did. -/
def bitrNilSpec : ChangeSpec := { name := "bitrNil", fn := fun _ => fun
  | [d] => { results := [.lit (.bool true)], args := [d] }
  | _ => none }
def bitrNilRow : OpenClaim := { program := "ytlikpljbbenmoaa", sum := "af4bb452a33756a43d08b71abbb6b2706ab8ce71e2f425e39bfb78f5f8778e0c", func := "platen/platenlaw03.BitrNil", spec := "bitrNil", apart := false }
def BitrNilSaid : Prop := bitrNilRow.holds Try.pinned (OpenSpec.ofChange bitrNilSpec)

/-- ITS FALSE NEIGHBOUR: 'it returns false'. Refute it at one input. -/
def bitrNilWrong : ChangeSpec := { name := "bitrNil", fn := fun _ => fun
  | [d] => { results := [.lit (.bool false)], args := [d] }
  | _ => none }
def BitrNilWrongFalsely : Prop := bitrNilRow.holds Try.pinned (OpenSpec.ofChange bitrNilWrong)

/-- 'platenlaw03.BitrWhole': WHATEVER THE INPUT: true; the input reads as it did. -/
def bitrWholeSpec : ChangeSpec := { name := "bitrWhole", fn := fun _ => fun
  | [d1, d2] => { results := [.lit (.bool true)], args := [d1, d2] }
  | _ => none }
def bitrWholeRow : OpenClaim := { program := "ytlikpljbbenmoaa", sum := "af4bb452a33756a43d08b71abbb6b2706ab8ce71e2f425e39bfb78f5f8778e0c", func := "platen/platenlaw03.BitrWhole", spec := "bitrWhole", apart := false }
def BitrWholeSaid : Prop := bitrWholeRow.holds Try.pinned (OpenSpec.ofChange bitrWholeSpec)

/-- ITS FALSE NEIGHBOUR: 'it returns false'. Refute it at one input. -/
def bitrWholeWrong : ChangeSpec := { name := "bitrWhole", fn := fun _ => fun
  | [d1, d2] => { results := [.lit (.bool false)], args := [d1, d2] }
  | _ => none }
def BitrWholeWrongFalsely : Prop := bitrWholeRow.holds Try.pinned (OpenSpec.ofChange bitrWholeWrong)

/- THE SECOND FORM. 'bulk': how many values and letters a reading holds, each counted each time it is reached (what is shared counts as often as it is met; a slice's spare places count too). A statement '..UptoSaid' is the law's where the arguments, and the package variables that the reading takes, are together of bulk at most 1048576: NARROWER than '..Said'. Prove '..Said' where nothing that the law and all that it calls make is longer than what came in: it says more and counts as full. Else prove '..UptoSaid'. A law counts once. -/
mutual
def uptoBulk {H : Type} : DataW H → Nat
  | .lit (.string bytes) => bytes.length + 1
  | .lit _ => 1
  | .nil => 1
  | .ptr d => uptoBulk d + 1
  | .slice elems spare => uptoBulkAll elems + uptoBulkAll spare + 1
  | .agg parts => uptoBulkAll parts + 1
  | .iface _ d => uptoBulk d + 1
  | .map entries => uptoBulkEntries entries + 1
  | .held _ => 1
def uptoBulkAll {H : Type} : List (DataW H) → Nat
  | [] => 0
  | d :: r => uptoBulk d + uptoBulkAll r
def uptoBulkEntries {H : Type} : List (Lit × DataW H) → Nat
  | [] => 0
  | x :: r => uptoBulkEntry x + uptoBulkEntries r
def uptoBulkEntry {H : Type} : Lit × DataW H → Nat
  | (.string bytes, d) => bytes.length + uptoBulk d + 1
  | (_, d) => uptoBulk d + 1
 end
def uptoSmall : (H : Type) → List (DataW H) → Bool := fun _ ds => decide (uptoBulkAll ds ≤ 1048576)
def OpenSpec.upto (s : _root_.Go.ChangeSpec) : _root_.Go.OpenSpec := { _root_.Go.OpenSpec.ofChange s with cond := some uptoSmall }

/-- 'platenlaw03.BitrPlays', WHERE WHAT IT READS IS OF BULK AT MOST 1048576: true; the input reads as it did. -/
def bitrPlaysUptoRow : OpenClaim := { program := "ytlikpljbbenmoaa", sum := "af4bb452a33756a43d08b71abbb6b2706ab8ce71e2f425e39bfb78f5f8778e0c", func := "platen/platenlaw03.BitrPlays", spec := "bitrPlays", apart := false, narrowed := true }
def BitrPlaysUptoSaid : Prop := bitrPlaysUptoRow.holds Try.pinned (OpenSpec.upto bitrPlaysSpec)

/-- 'platenlaw03.BitrBack', WHERE WHAT IT READS IS OF BULK AT MOST 1048576: true; the input reads as it did. -/
def bitrBackUptoRow : OpenClaim := { program := "ytlikpljbbenmoaa", sum := "af4bb452a33756a43d08b71abbb6b2706ab8ce71e2f425e39bfb78f5f8778e0c", func := "platen/platenlaw03.BitrBack", spec := "bitrBack", apart := false, narrowed := true }
def BitrBackUptoSaid : Prop := bitrBackUptoRow.holds Try.pinned (OpenSpec.upto bitrBackSpec)

/-- 'platenlaw03.BitrPieces', WHERE WHAT IT READS IS OF BULK AT MOST 1048576: true; the input reads as it did. -/
def bitrPiecesUptoRow : OpenClaim := { program := "ytlikpljbbenmoaa", sum := "af4bb452a33756a43d08b71abbb6b2706ab8ce71e2f425e39bfb78f5f8778e0c", func := "platen/platenlaw03.BitrPieces", spec := "bitrPieces", apart := false, narrowed := true }
def BitrPiecesUptoSaid : Prop := bitrPiecesUptoRow.holds Try.pinned (OpenSpec.upto bitrPiecesSpec)

/-- 'platenlaw03.BitrNil', WHERE WHAT IT READS IS OF BULK AT MOST 1048576: true; the input reads as it did. -/
def bitrNilUptoRow : OpenClaim := { program := "ytlikpljbbenmoaa", sum := "af4bb452a33756a43d08b71abbb6b2706ab8ce71e2f425e39bfb78f5f8778e0c", func := "platen/platenlaw03.BitrNil", spec := "bitrNil", apart := false, narrowed := true }
def BitrNilUptoSaid : Prop := bitrNilUptoRow.holds Try.pinned (OpenSpec.upto bitrNilSpec)

/-- 'platenlaw03.BitrWhole', WHERE WHAT IT READS IS OF BULK AT MOST 1048576: true; the input reads as it did. -/
def bitrWholeUptoRow : OpenClaim := { program := "ytlikpljbbenmoaa", sum := "af4bb452a33756a43d08b71abbb6b2706ab8ce71e2f425e39bfb78f5f8778e0c", func := "platen/platenlaw03.BitrWhole", spec := "bitrWhole", apart := false, narrowed := true }
def BitrWholeUptoSaid : Prop := bitrWholeUptoRow.holds Try.pinned (OpenSpec.upto bitrWholeSpec)

end Rows
end Go.Proofs.Ytlikpljbbenmoaa
