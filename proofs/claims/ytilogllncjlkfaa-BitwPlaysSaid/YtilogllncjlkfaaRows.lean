/-
  No cell of these rows narrows 'for every input' (looked for: loops, veiled, ifaces, maps, wideKeys, modest, calm, conditions, laid).
  DERIVED. THE GIVEN ROWS OF THIS SEAT. 5 by the template 'for every input the law returns true; each argument reads behind the call as it read before'; 0 by the template 'total and deterministic' (their statements: YtilogllncjlkfaaTotals.lean).
  GIVEN WITH THE SEED: the statements are not yours to turn. If you find one false, say at which input.
  Laid BY PROGRAM, IN A SANDBOX (cutbox-rows.mjs): the forced cells as the released guide's own fill.sh prints them over the translation 0ae2a550fea3e13a… (all of the seat's roots in one cut). By AI agents, Wed Nov 11 2026. No macro, syntax, notation, axiom, sorry.
-/
import Derived.Test.YtilogllncjlkfaaChecked
import GoSem.Claim
import GoSem.ClaimJoined
import GoSem.ClaimMapViews
import Derived.JoinedTies
import Derived.KernelRfl
namespace Go.Proofs.Ytilogllncjlkfaa
/- THE CELL 'sum', in the pinned program and in every row, IS THE sha256 OF THE DUMP (.gsa) THAT YtilogllncjlkfaaProg.lean LOADS. Nothing in Lean hashes anything: it is a label: what it is worth is what the hold of that sum in a sandbox is worth. -/
noncomputable def Try.pinned : Pinned := { name := "ytilogllncjlkfaa", sum := "0ae2a550fea3e13a5266a0cb6d4a7f74a3a23ea59464f5e056f37742118c966a", checked := Try.checked }
namespace Rows
def none {H : Type} : Left H := { results := [], args := [] }

/-- 'platenlaw02.BitwPlays': WHATEVER THE INPUT: true; the input reads as it did. -/
def bitwPlaysSpec : ChangeSpec := { name := "bitwPlays", fn := fun _ => fun
  | [d1, d2] => { results := [.lit (.bool true)], args := [d1, d2] }
  | _ => none }
def bitwPlaysRow : OpenClaim := { program := "ytilogllncjlkfaa", sum := "0ae2a550fea3e13a5266a0cb6d4a7f74a3a23ea59464f5e056f37742118c966a", func := "platen/platenlaw02.BitwPlays", spec := "bitwPlays", apart := false }
def BitwPlaysSaid : Prop := bitwPlaysRow.holds Try.pinned (OpenSpec.ofChange bitwPlaysSpec)

/-- ITS FALSE NEIGHBOUR: 'it returns false'. Refute it at one input. -/
def bitwPlaysWrong : ChangeSpec := { name := "bitwPlays", fn := fun _ => fun
  | [d1, d2] => { results := [.lit (.bool false)], args := [d1, d2] }
  | _ => none }
def BitwPlaysWrongFalsely : Prop := bitwPlaysRow.holds Try.pinned (OpenSpec.ofChange bitwPlaysWrong)

/-- 'platenlaw02.BitwPieces': WHATEVER THE INPUT: true; the input reads as it did. -/
def bitwPiecesSpec : ChangeSpec := { name := "bitwPieces", fn := fun _ => fun
  | [d1, d2, d3, d4, d5] => { results := [.lit (.bool true)], args := [d1, d2, d3, d4, d5] }
  | _ => none }
def bitwPiecesRow : OpenClaim := { program := "ytilogllncjlkfaa", sum := "0ae2a550fea3e13a5266a0cb6d4a7f74a3a23ea59464f5e056f37742118c966a", func := "platen/platenlaw02.BitwPieces", spec := "bitwPieces", apart := false }
def BitwPiecesSaid : Prop := bitwPiecesRow.holds Try.pinned (OpenSpec.ofChange bitwPiecesSpec)

/-- ITS FALSE NEIGHBOUR: 'it returns false'. Refute it at one input. -/
def bitwPiecesWrong : ChangeSpec := { name := "bitwPieces", fn := fun _ => fun
  | [d1, d2, d3, d4, d5] => { results := [.lit (.bool false)], args := [d1, d2, d3, d4, d5] }
  | _ => none }
def BitwPiecesWrongFalsely : Prop := bitwPiecesRow.holds Try.pinned (OpenSpec.ofChange bitwPiecesWrong)

/-- 'platenlaw02.BitwStays': WHATEVER THE INPUT: true; the input reads as it did. -/
def bitwStaysSpec : ChangeSpec := { name := "bitwStays", fn := fun _ => fun
  | [d1, d2] => { results := [.lit (.bool true)], args := [d1, d2] }
  | _ => none }
def bitwStaysRow : OpenClaim := { program := "ytilogllncjlkfaa", sum := "0ae2a550fea3e13a5266a0cb6d4a7f74a3a23ea59464f5e056f37742118c966a", func := "platen/platenlaw02.BitwStays", spec := "bitwStays", apart := false }
def BitwStaysSaid : Prop := bitwStaysRow.holds Try.pinned (OpenSpec.ofChange bitwStaysSpec)

/-- ITS FALSE NEIGHBOUR: 'it returns false'. Refute it at one input. -/
def bitwStaysWrong : ChangeSpec := { name := "bitwStays", fn := fun _ => fun
  | [d1, d2] => { results := [.lit (.bool false)], args := [d1, d2] }
  | _ => none }
def BitwStaysWrongFalsely : Prop := bitwStaysRow.holds Try.pinned (OpenSpec.ofChange bitwStaysWrong)

/-- 'platenlaw02.BitwNil': WHATEVER THE INPUT: true; the input reads as it did. -/
def bitwNilSpec : ChangeSpec := { name := "bitwNil", fn := fun _ => fun
  | [d1, d2, d3] => { results := [.lit (.bool true)], args := [d1, d2, d3] }
  | _ => none }
def bitwNilRow : OpenClaim := { program := "ytilogllncjlkfaa", sum := "0ae2a550fea3e13a5266a0cb6d4a7f74a3a23ea59464f5e056f37742118c966a", func := "platen/platenlaw02.BitwNil", spec := "bitwNil", apart := false }
def BitwNilSaid : Prop := bitwNilRow.holds Try.pinned (OpenSpec.ofChange bitwNilSpec)

/-- ITS FALSE NEIGHBOUR: 'it returns false'. Refute it at one input. -/
def bitwNilWrong : ChangeSpec := { name := "bitwNil", fn := fun _ => fun
  | [d1, d2, d3] => { results := [.lit (.bool false)], args := [d1, d2, d3] }
  | _ => none }
def BitwNilWrongFalsely : Prop := bitwNilRow.holds Try.pinned (OpenSpec.ofChange bitwNilWrong)

/-- 'platenlaw02.BitwRoom': WHATEVER THE INPUT: true; the input reads as it did. -/
def bitwRoomSpec : ChangeSpec := { name := "bitwRoom", fn := fun _ => fun
  | [d1, d2] => { results := [.lit (.bool true)], args := [d1, d2] }
  | _ => none }
def bitwRoomRow : OpenClaim := { program := "ytilogllncjlkfaa", sum := "0ae2a550fea3e13a5266a0cb6d4a7f74a3a23ea59464f5e056f37742118c966a", func := "platen/platenlaw02.BitwRoom", spec := "bitwRoom", apart := false }
def BitwRoomSaid : Prop := bitwRoomRow.holds Try.pinned (OpenSpec.ofChange bitwRoomSpec)

/-- ITS FALSE NEIGHBOUR: 'it returns false'. Refute it at one input. -/
def bitwRoomWrong : ChangeSpec := { name := "bitwRoom", fn := fun _ => fun
  | [d1, d2] => { results := [.lit (.bool false)], args := [d1, d2] }
  | _ => none }
def BitwRoomWrongFalsely : Prop := bitwRoomRow.holds Try.pinned (OpenSpec.ofChange bitwRoomWrong)

/- THE SECOND FORM. 'bulk': how many values and letters a reading holds, each counted each time it is reached (what is shared counts as often as it is met; a slice's spare places count too). A statement '..UptoSaid' is the law's where the arguments, and the package variables that the reading takes, are together of bulk at most 1048576: NARROWER than '..Said'. Prove '..Said' where nothing that the law and all that it calls make is longer than what came in: it says more and counts as full. Else prove '..UptoSaid'. A law counts once. -/
mutual
def uptoBulk {H : Type} : DataW H → Nat
  | .lit (.string bytes) => bytes.length + 1
  | .lit _ => 1
  | .nil => 1
  | .ptr d => uptoBulk d + 1
  | .slice elems spare => uptoBulkAll elems + uptoBulkAll spare + 1
  | .agg parts => uptoBulkAll parts + 1
  | .iface _ d => uptoBulk d + 1
  | .map entries => uptoBulkEntries entries + 1
  | .held _ => 1
def uptoBulkAll {H : Type} : List (DataW H) → Nat
  | [] => 0
  | d :: r => uptoBulk d + uptoBulkAll r
def uptoBulkEntries {H : Type} : List (Lit × DataW H) → Nat
  | [] => 0
  | x :: r => uptoBulkEntry x + uptoBulkEntries r
def uptoBulkEntry {H : Type} : Lit × DataW H → Nat
  | (.string bytes, d) => bytes.length + uptoBulk d + 1
  | (_, d) => uptoBulk d + 1
 end
def uptoSmall : (H : Type) → List (DataW H) → Bool := fun _ ds => decide (uptoBulkAll ds ≤ 1048576)
def OpenSpec.upto (s : _root_.Go.ChangeSpec) : _root_.Go.OpenSpec := { _root_.Go.OpenSpec.ofChange s with cond := some uptoSmall }

/-- 'platenlaw02.BitwPlays', WHERE WHAT IT READS IS OF BULK AT MOST 1048576: true; the input reads as it did. -/
def bitwPlaysUptoRow : OpenClaim := { program := "ytilogllncjlkfaa", sum := "0ae2a550fea3e13a5266a0cb6d4a7f74a3a23ea59464f5e056f37742118c966a", func := "platen/platenlaw02.BitwPlays", spec := "bitwPlays", apart := false, narrowed := true }
def BitwPlaysUptoSaid : Prop := bitwPlaysUptoRow.holds Try.pinned (OpenSpec.upto bitwPlaysSpec)

/-- 'platenlaw02.BitwPieces', WHERE WHAT IT READS IS OF BULK AT MOST 1048576: true; the input reads as it did. -/
def bitwPiecesUptoRow : OpenClaim := { program := "ytilogllncjlkfaa", sum := "0ae2a550fea3e13a5266a0cb6d4a7f74a3a23ea59464f5e056f37742118c966a", func := "platen/platenlaw02.BitwPieces", spec := "bitwPieces", apart := false, narrowed := true }
def BitwPiecesUptoSaid : Prop := bitwPiecesUptoRow.holds Try.pinned (OpenSpec.upto bitwPiecesSpec)

/-- 'platenlaw02.BitwStays', WHERE WHAT IT READS IS OF BULK AT MOST 1048576: true; the input reads as it did. -/
def bitwStaysUptoRow : OpenClaim := { program := "ytilogllncjlkfaa", sum := "0ae2a550fea3e13a5266a0cb6d4a7f74a3a23ea59464f5e056f37742118c966a", func := "platen/platenlaw02.BitwStays", spec := "bitwStays", apart := false, narrowed := true }
def BitwStaysUptoSaid : Prop := bitwStaysUptoRow.holds Try.pinned (OpenSpec.upto bitwStaysSpec)

/-- 'platenlaw02.BitwNil', WHERE WHAT IT READS IS OF BULK AT MOST 1048576: true; the input reads as it did. -/
def bitwNilUptoRow : OpenClaim := { program := "ytilogllncjlkfaa", sum := "0ae2a550fea3e13a5266a0cb6d4a7f74a3a23ea59464f5e056f37742118c966a", func := "platen/platenlaw02.BitwNil", spec := "bitwNil", apart := false, narrowed := true }
def BitwNilUptoSaid : Prop := bitwNilUptoRow.holds Try.pinned (OpenSpec.upto bitwNilSpec)

/-- 'platenlaw02.BitwRoom', WHERE WHAT IT READS IS OF BULK AT MOST 1048576: true; the input reads as it did. -/
def bitwRoomUptoRow : OpenClaim := { program := "ytilogllncjlkfaa", sum := "0ae2a550fea3e13a5266a0cb6d4a7f74a3a23ea59464f5e056f37742118c966a", func := "platen/platenlaw02.BitwRoom", spec := "bitwRoom", apart := false, narrowed := true }
def BitwRoomUptoSaid : Prop := bitwRoomUptoRow.holds Try.pinned (OpenSpec.upto bitwRoomSpec)

end Rows
end Go.Proofs.Ytilogllncjlkfaa
