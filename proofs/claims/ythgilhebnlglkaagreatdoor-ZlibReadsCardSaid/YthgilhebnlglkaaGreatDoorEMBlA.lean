import Derived.Test.YthgilhebnlglkaaGreatDoorEMBwG
import Derived.Test.YthgilhebnlglkaaGreatDoorEQtD
import Derived.Test.YthgilhebnlglkaaGreatDoorEMSaA
import Derived.Test.YthgilhebnlglkaaGreatDoorEMYsD
import Derived.LaidSub
set_option linter.all false
open Go.Proofs.Tryz
namespace Go.Proofs.YthgilhebnlglkaaGreatDoor.V
open Go Go.RowKit M U
theorem za0:sys []=[⟨false,256,0,0⟩]:=rfl
theorem zeD(c s:Nat):cdb c (s+1)=c/2^s%2::cdb c s:=by
 unfold cdb;rw[List.range_succ_eq_map,List.map_cons,List.map_map];congr 1;apply List.map_congr_left;intro i _;show c/2^(s+1 - 1 - (i+1))%2=_
 congr 3;omega
theorem zgZ(V o:Nat)(X Y:List Nat):V+nb (X++Y)*2^o=V+nb X*2^o+nb Y*2^(o+X.length):=by
 rw[z1P,Nat.add_mul,Nat.pow_add,Nat.mul_assoc,Nat.mul_comm (2^X.length) (2^o),Nat.add_assoc]
section
variable {w:World} {B p:Nat} {S:Nat->Prop} {most:Int} {V o:Nat} {X:List Nat}
end
end Go.Proofs.YthgilhebnlglkaaGreatDoor.V
namespace Go.Proofs.YthgilhebnlglkaaGreatDoor.V
open Go Go.RowKit
def Tabs(w:World):Prop:=U.Tab w/\Y.Tab w
theorem Tabs.keep{w w':World}(h:Tabs w)(hb:Below w.heap.size w w'):Tabs w':=⟨h.1.below hb qR,h.2.below hb qR⟩
theorem z5c{W:World}{laid:List (String×DataW Unit)}(hl:laid=[("platen/runs.says",Rows.laid_platen_runs_says),("platen/symbol.lengths",Rows.laid_platen_symbol_lengths),("platen/symbol.distances",Rows.laid_platen_symbol_distances)])(h:laidMet prog laid W):Tabs W:=by
 subst hl;exact⟨U.tab_of_laid rfl (h.filter λx=>x.1== "platen/runs.says"),Y.tab_of_laid rfl (h.filter λx=>x.1 != "platen/runs.says")⟩
