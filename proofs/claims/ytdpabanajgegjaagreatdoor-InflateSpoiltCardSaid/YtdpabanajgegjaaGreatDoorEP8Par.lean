import Derived.Test.YtdpabanajgegjaaGreatDoorEMP8RfC
import Derived.Test.YtdpabanajgegjaaGreatDoorEMMathT
import Derived.Test.YtdpabanajgegjaaGreatDoorRows
import Derived.OpenShut
import Derived.LaidMore
import Derived.Deep.DeepHandedRow
import Derived.MakeChecks
import Derived.Test.YtdpabanajgegjaaGreatDoorEMP8MathC
import Derived.Maps.OwnRows
import Derived.Maps.GroupsBeside
import Derived.WideKeyEntry
import Derived.Test.YtdpabanajgegjaaGreatDoorChecked
import Derived.DeepKeys4
import Derived.KernelRfl
import Derived.Deep.OwnRows
import Derived.Test.YtdpabanajgegjaaGreatDoorEP8Cpy
import Derived.WalkKit
import Derived.Lib.Hide
import Derived.Outline
import Derived.Deep.RegionLaw
import Derived.RegionTactic
import Derived.BigRegion
import Derived.BigQuiet
import Derived.Deep.QuietTactic
import Derived.ChangeAlike
import Derived.Laws.Cells
import Derived.WalkSpells
import Derived.WalkMore
import Derived.IntWalk
import Derived.Test.YtdpabanajgegjaaGreatDoorEMDrw
import Derived.Maps.AppendAt
import Derived.OwnWalk
import Derived.Test.YtdpabanajgegjaaGreatDoorEMLwA
import Derived.Lib.LazyBuf
import Derived.RangeFuncBox
import Derived.RangeFuncCalls
import Derived.RangeFuncLeaves
import Derived.RangeFuncWrites
import Derived.Shelf.Abstract
import Derived.OwnWalkIn
import Derived.TacticsInMore
import Derived.LoopNIn
import Derived.LoopIn
import Derived.ScopeJumps
import Derived.Scope
namespace Go.Proofs.YtdpabanajgegjaaGreatDoor.V.Px
set_option maxRecDepth 1000000
open Go Go.RowKit M
open Q (Owq lits lits_length)
set_option linter.unusedVariables false
set_option linter.unusedSimpArgs false
theorem clq_clt:∀L,Q.clq L=clt L
 |[]=>rfl
 |t::l=>by simp only[Q.clq,clt];rw[clq_clt l]
theorem _root_.Go.Proofs.YtdpabanajgegjaaGreatDoor.V.IsTks.of_owq{w:World}{B:Nat}{v:Value}{L:List Tk}(h:Owq B w v L)(hok:∀c∈L,c.ok)(hm:L.length≤maxLen):∃A c,v=.slice A L.length c∧IsTks w A L.length L:=by
 unfold Q.Owq at h;rw[clq_clt] at h;exact IsTks.of_own h hok hm
theorem owq_cap{w:World}{B n c:Nat}{A:Option Addr}{L:List Tk}(h:Owq B w (.slice A n c) L):L.length≤c:=by
 obtain⟨_,hh⟩:=h;rcases hh with⟨h1,h2⟩|⟨g,cp,cs,h1,h2,h3,h4,h5,h6,h7⟩
 · omega
 · simp only[Value.slice.injEq] at h1
   obtain⟨_,_,rfl⟩:=h1;omega
def cutd(d:ByteArray):ByteArray:=d.extract (d.size - 32768) d.size
theorem cutd_all{d:ByteArray}(h:d.size≤32768):cutd d=d:=by
 unfold cutd;rw[show d.size - 32768=0 by omega];exact ByteArray.extract_zero_size
end Go.Proofs.YtdpabanajgegjaaGreatDoor.V.Px
