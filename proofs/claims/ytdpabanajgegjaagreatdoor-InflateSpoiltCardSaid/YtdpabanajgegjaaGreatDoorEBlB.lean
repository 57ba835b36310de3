import Derived.Test.YtdpabanajgegjaaGreatDoorEMBwQ
import Derived.Test.YtdpabanajgegjaaGreatDoorEMBwK
import Derived.Test.YtdpabanajgegjaaGreatDoorEMRns
import Derived.Test.YtdpabanajgegjaaGreatDoorEMBwX
import Derived.Test.YtdpabanajgegjaaGreatDoorEMMath
import Derived.Deep.OwnRows
import Derived.BigQuiet
import Derived.Deep.QuietTactic
import Derived.RegionTactic
import Derived.BigRegion
import Derived.ChangeAlike
import Derived.Deep.LoopGhost
import Derived.Deep.AppendLies
import Derived.Deep.RegionLaw
import Derived.WalkMore
import Derived.Test.YtdpabanajgegjaaGreatDoorEMMathT
import Derived.Lib.AppendStr
import Derived.Laws.BytesString
import Derived.Laws.Cells
import Derived.WalkSpells
namespace Go.Proofs.YtdpabanajgegjaaGreatDoor.V
open Go Go.RowKit M U
set_option linter.unusedVariables false
set_option linter.unusedSimpArgs false
theorem rep_bit(n:Nat):∀x∈List.replicate n 0,x≤1:=fun x hx=>by rw[List.eq_of_mem_replicate hx];omega
theorem app_bit{a b:List Nat}(ha:∀x∈a,x≤1)(hb:∀x∈b,x≤1):∀x∈a++b,x≤1:=fun x hx=>(List.mem_append.1 hx).elim (ha x) (hb x)
theorem flat_bit{α:Type}{f:α→List Nat}{l:List α}(h:∀a∈l,∀x∈f a,x≤1):∀x∈l.flatMap f,x≤1:=fun x hx=>by
 obtain⟨a,ha,hx⟩:=List.mem_flatMap.1 hx;exact h a ha x hx
theorem wsy_bit(l1:Nat→Nat)(n1:Nat)(l2:Nat→Nat)(n2:Nat)(y:Sy):∀x∈wsy l1 n1 l2 n2 y,x≤1:=by
 unfold wsy;refine app_bit ?_ (put_bit _ _)
 split<;>exact cdb_bit _ _
theorem stb_bit(o:Nat)(s:ByteArray)(last:Bool):∀x∈stb o s last,x≤1:=by
 unfold stb;exact app_bit (app_bit (app_bit (app_bit (hdb_bit _ _) (rep_bit _)) (put_bit _ _)) (put_bit _ _)) (flat_bit fun _ _=>put_bit _ _)
theorem hdd_bit(L:List Tk):∀x∈hdd L,x≤1:=by
 unfold hdd dyb;refine app_bit (app_bit (app_bit (app_bit (put_bit _ _) (put_bit _ _)) (put_bit _ _)) (flat_bit fun _ _=>put_bit _ _)) (flat_bit fun a _=> ?_);unfold wrn;exact app_bit (cdb_bit _ _) (put_bit _ _)
theorem blk_bit(k:Nat)(L:List Tk)(raw:ByteArray)(last:Bool)(o:Nat):∀x∈blk k L raw last o,x≤1:=by
 unfold blk
 split
 · exact stb_bit _ _ _
 · split
   · exact app_bit (hdb_bit _ _) (flat_bit fun y _=>wsy_bit _ _ _ _ y)
   · exact app_bit (app_bit (hdb_bit _ _) (hdd_bit L)) (flat_bit fun y _=>wsy_bit _ _ _ _ y)
theorem text_eq(V n:Nat):(⟨((List.range n).map fun i=>UInt8.ofNat (byn V i)).toArray⟩:ByteArray)=bstr (le V n):=by
 unfold bstr;rw[le_eq];rfl
end Go.Proofs.YtdpabanajgegjaaGreatDoor.V
