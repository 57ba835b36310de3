/- Texts of one place, one behind the other: SoB, SoC. -/
import Derived.Test.YtdpabanajgegjaaGreatDoorProg
import Derived.Test.YtdpabanajgegjaaGreatDoorEMMathT
import Derived.WalkKit
import Derived.Lib.Hide
import Derived.RegionTactic
import Derived.BigRegion
import Derived.IntWalk
import Derived.BigQuiet
import Derived.Deep.RegionHeld3
import Derived.Deep.QuietTactic
set_option linter.unusedVariables false
namespace Go.Proofs.YtdpabanajgegjaaGreatDoor
open Go.RowKit M
def One(b:Nat):Nat→Prop:=fun j=>j=b
theorem ins_stop{e e1:Nat→Nat×Nat}{a i d j:Nat}(hi:a<i)(hd:i<d)(ho:Ord e1 a i)(hm:Same e e1 a (min i d))(hr:∀t,a≤t→t<i→(e1 t).1=(e1 i).1→(e1 t).2<(e1 i).2)
 (h1:a≤j) (h2:j≤i) (hj:∀t,j≤t→t<i→(e1 i).1<(e1 t).1) (hs:j=a∨¬(e1 i).1<(e1 (j - 1)).1):Ord (mvd e1 j i) a (i+1)∧Same e (mvd e1 j i) a (min (i+1) d):=by
 refine⟨mvd_ord ho hr h1 h2 hj (by omega),?_⟩;rw[Nat.min_eq_left (by omega)] at hm ⊢;exact(hm.wide (Nat.le_refl _) (by omega)).trans (mvd_same e1 h1 h2 (by omega))
end Go.Proofs.YtdpabanajgegjaaGreatDoor
