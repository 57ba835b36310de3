/- Texts of one place, one behind the other: SpS, DfK. -/
import Derived.Test.YtdpabanajgegjaaGreatDoorEMSpK
import Derived.Test.YtdpabanajgegjaaGreatDoorEMBwK
import Derived.Test.YtdpabanajgegjaaGreatDoorEMRns
import Derived.Laws.StructEq
import Derived.Maps.AppendAt
import Derived.Test.YtdpabanajgegjaaGreatDoorEBpB
import Derived.Test.YtdpabanajgegjaaGreatDoorEMSaA
import Derived.LoopNIn
import Derived.Lib.Hide
import Derived.RangeFuncNested
import Derived.RangeFuncBox
import Derived.RangeFuncCalls
import Derived.RangeFuncLeaves
import Derived.RangeFuncWrites
import Derived.Shelf.Abstract
import Derived.OwnWalkIn
import Derived.TacticsInMore
import Derived.LoopIn
import Derived.Laws.EntriesVeiled
import Derived.Deep.AppendLies
import Derived.RegionIn
import Derived.Shelf.RegionOpen
import Derived.Test.YtdpabanajgegjaaGreatDoorEMBwH
import Derived.Deep.MidRow
import Derived.Test.YtdpabanajgegjaaGreatDoorEBlB
import Derived.Test.YtdpabanajgegjaaGreatDoorEMPkE
import Derived.Deep.QuietTactic
import Derived.BigQuiet
import Derived.Deep.CutRange
import Derived.Test.YtdpabanajgegjaaGreatDoorETbs
import Derived.Test.YtdpabanajgegjaaGreatDoorEMMath
import Derived.WalkSpells
import Derived.Deep.OwnRows
import Derived.RegionTactic
import Derived.BigRegion
import Derived.ChangeAlike
import Derived.Deep.LoopGhost
import Derived.Deep.RegionLaw
import Derived.WalkMore
import Derived.Test.YtdpabanajgegjaaGreatDoorEMMathT
import Derived.Lib.AppendStr
import Derived.Laws.BytesString
import Derived.Laws.Cells
import Derived.Test.YtdpabanajgegjaaGreatDoorEMBwQ
import Derived.Test.YtdpabanajgegjaaGreatDoorEMBwX
import Derived.Test.YtdpabanajgegjaaGreatDoorEMT9Tok
import Derived.Deep.RegionHeld3
import Derived.Lib.AppendZeros
import Derived.Deep.RegionHeld
import Derived.RangeFuncOwn
set_option linter.unusedVariables false
set_option linter.unusedSimpArgs false
set_option maxRecDepth 1000000
namespace Go.Proofs.YtdpabanajgegjaaGreatDoor.V
open Go Go.RowKit M U
open Go.ChangeShapes Go.WideShapes Go.Deep
theorem Chn.mem:∀ {l:List (Nat×Nat)} {a b:Nat} {q:Nat×Nat},Chn a l b→q∈l→q.1≤q.2∧q.2≤b
 |[],_,_,_,_,h=>absurd h (by simp)
 |p::l,a,b,q,hc,h=>by
  rcases List.mem_cons.1 h with rfl|h
  · exact⟨by rw[hc.1];exact hc.2.1,Chn.le hc.2.2⟩
  · exact Chn.mem hc.2.2 h
end Go.Proofs.YtdpabanajgegjaaGreatDoor.V
namespace Go.Proofs.YtdpabanajgegjaaGreatDoor.V
open Go Go.RowKit M U
structure Bk where
 k:Nat
 A:Option Addr
 n:Nat
 c:Nat
 L:List Tk
 raw:ByteArray
 last:Bool
noncomputable def bkb:List Bk→Nat→List Nat
 |[],_=> []
 |x::r,o=>bkm x.k x.L x.raw x.last o++bkb r (o+(bkm x.k x.L x.raw x.last o).length)
end Go.Proofs.YtdpabanajgegjaaGreatDoor.V
