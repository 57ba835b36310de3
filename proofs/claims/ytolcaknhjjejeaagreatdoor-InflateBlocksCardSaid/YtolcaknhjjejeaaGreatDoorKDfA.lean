import Derived.Test.YtolcaknhjjejeaaGreatDoorKMBwQ
import Derived.Test.YtolcaknhjjejeaaGreatDoorKMT9Tok
import Derived.Test.YtolcaknhjjejeaaGreatDoorKSpO
import Derived.Deep.RegionHeld3
import Derived.Test.YtolcaknhjjejeaaGreatDoorKMMathT
import Derived.Test.YtolcaknhjjejeaaGreatDoorKMRns
import Derived.Test.YtolcaknhjjejeaaGreatDoorChecked
import Derived.KernelRfl
import Derived.Deep.OwnRows
import Derived.WalkKit
import Derived.Deep.Slices
import Derived.Deep.Fields
import Derived.SizedLaws
import Derived.Laws.IdiomStrings
import Derived.Lib.ConvBytes
import Derived.ArgAppend
import Derived.Laws.OwnMore
import Derived.Deep.AppendLies
import Derived.RangeFuncOwn
import Derived.Lib.Hide
import Derived.Outline
import Derived.Deep.RegionLaw
import Derived.RegionTactic
import Derived.BigRegion
import Derived.BigQuiet
import Derived.Deep.QuietTactic
import Derived.ChangeAlike
import Derived.Laws.Cells
import Derived.WalkSpells
import Derived.WalkMore
import Derived.IntWalk
import Derived.Laws.StructEq
import Derived.Test.YtolcaknhjjejeaaGreatDoorKP8Cpy
import Derived.OwnWalk
import Derived.Maps.AppendAt
import Derived.Test.YtolcaknhjjejeaaGreatDoorRows
import Derived.OpenShut
import Derived.LaidMore
import Derived.Deep.DeepHandedRow
import Derived.MakeChecks
import Derived.Maps.OwnRows
import Derived.Maps.GroupsBeside
import Derived.WideKeyEntry
import Derived.DeepKeys4
import Derived.Test.YtolcaknhjjejeaaGreatDoorKMDrw
import Derived.Test.YtolcaknhjjejeaaGreatDoorKMLwA
import Derived.Lib.LazyBuf
import Derived.RangeFuncBox
import Derived.RangeFuncCalls
import Derived.RangeFuncLeaves
import Derived.RangeFuncWrites
import Derived.Shelf.Abstract
import Derived.OwnWalkIn
import Derived.TacticsInMore
import Derived.LoopNIn
import Derived.LoopIn
import Derived.ScopeJumps
import Derived.Scope
import Derived.Test.YtolcaknhjjejeaaGreatDoorKMMath
namespace Go.Proofs.YtolcaknhjjejeaaGreatDoor.V
open Go Go.RowKit M U
set_option linter.unusedVariables false
set_option linter.unusedSimpArgs false
set_option maxRecDepth 1000000
theorem textR_size (V L : Nat) : (textR V L).size = (L + 7) / 8 := by
  unfold textR
  rw [M.bstr_size, M.le_length]
end Go.Proofs.YtolcaknhjjejeaaGreatDoor.V
