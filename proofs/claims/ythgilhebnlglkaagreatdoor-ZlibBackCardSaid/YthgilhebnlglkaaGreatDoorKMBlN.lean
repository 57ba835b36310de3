import Derived.Test.YthgilhebnlglkaaGreatDoorKMBlB
import Derived.Test.YthgilhebnlglkaaGreatDoorKMSaA
import Derived.Test.YthgilhebnlglkaaGreatDoorKMYsD
import Derived.LaidSub
set_option linter.all false
open Go.Proofs.Tryz
namespace Go.Proofs.YthgilhebnlglkaaGreatDoor
namespace V
open Go Go.RowKit M U
theorem cdb_succ(c s:Nat):cdb c (s+1)=c/2^s%2::cdb c s:=by
 unfold cdb;rw[Dc,Al,BC];congr 1;apply BG;intro i _;show c/2^(s+1 - 1 - (i+1))%2=_
 congr 3;omega
theorem Ju(n:Nat):nb (List.replicate n 0)=0:=by
 have h:=ya n [];rw[Az] at h;rw[h];simp[nb]
theorem nb_byb(s:ByteArray):∀k,k<=s.size->nb (byb s k)=vl (s.data.toList.take k)
 |0,_=>rfl
 |k+1,h=>by
  have a:k<s.size:=h;rw[byb_succ,nb_append,nb_byb s k (by omega),nb_put,byb_length,jI s k a,Kc a];have:=bty_lt s k;rw[show(2:Nat)^8=256 from rfl,Ar (by omega),Ao k 8,<-p8]
theorem qv(s:ByteArray):nb (byb s s.size)=vl s.data.toList:=by rw[nb_byb s s.size qR,lF]
theorem me(V o:Nat)(X Y:List Nat):V+nb (X++Y)*2^o=V+nb X*2^o+nb Y*2^(o+X.length):=by
 rw[nb_append,BQ,AJ,Ba,Ao (2^X.length) (2^o),AC]
theorem zO(L:Nat):aG L=L+pd L:=by unfold aG pd;omega
section
variable {w:World} {B p:Nat} {S:Nat->Prop} {most:Int} {V o:Nat} {X:List Nat}
theorem rE(h:Wt w B p S most (V+nb X*2^o) (o+X.length))(a:o+X.length<=900000000):
 Calls prog 272 #[.pointer (some ⟨p,0,none⟩)] w (Did w B p S most (0,V+nb (X++List.replicate (pd (o+X.length)) 0)*2^o,o+(X++List.replicate (pd (o+X.length)) 0).length)):=by
 have g:=Go.Proofs.YthgilhebnlglkaaGreatDoor.align_any h a;rw[zO] at g;rw[me,Ju,BU,AI,qA,AP,<-AC];exact g
theorem rf(h:Wt w B p S most (V+nb X*2^o) (o+X.length))(s:ByteArray)(hs:s.size<=100000000)(b:o+X.length<=900000000)(d:(o+X.length)%8=0)(c:(((o+(X++byb s s.size).length+7) /8:Nat):Int)<=most):
 Calls prog 273 #[.pointer (some ⟨p,0,none⟩),.string s] w (Did w B p S most (0,V+nb (X++byb s s.size)*2^o,o+(X++byb s s.size).length)):=by
 have g:=Go.Proofs.YthgilhebnlglkaaGreatDoor.bytes_any h s b hs;have a:aG (o+X.length)=o+X.length:=(by unfold aG;omega);rw[qA,byb_length] at c;rw[iy (by omega),a] at g;rw[me,qv,qA,byb_length,<-AC,Ao s.size 8];exact g
theorem mU(h:Wt w B p S most (V+nb X*2^o) (o+X.length))(s:ByteArray)(hs:s.size<=100000000)(a:o+X.length<=900000000)(c:(o+X.length)%8=0)(b:¬(((o+(X++byb s s.size).length+7) /8:Nat):Int)<=most):
 Calls prog 273 #[.pointer (some ⟨p,0,none⟩),.string s] w (Did w B p S most (4,V+nb X*2^o,o+X.length)):=by
 have g:=Go.Proofs.YthgilhebnlglkaaGreatDoor.bytes_any h s a hs;rw[qA,byb_length] at b;rw[fS (by omega)] at g;exact g
end
end V
namespace V
open Go Go.RowKit
def Tabs(w:World):Prop:=U.Tab w/\Y.Tab w
theorem Tabs.keep{w w':World}(h:Tabs w)(a:Below w.heap.size w w'):Tabs w':=⟨h.1.below a qR,h.2.below a qR⟩
theorem jO{W:World}{a:List (String×DataW Unit)}(b:a=[("platen/runs.says",Rows.laid_platen_runs_says),("platen/symbol.lengths",Rows.laid_platen_symbol_lengths),("platen/symbol.distances",Rows.laid_platen_symbol_distances)])(h:laidMet prog a W):Tabs W:=by
 subst b;exact⟨U.tab_of_laid rfl (h.filter λx=>x.1== "platen/runs.says"),Y.tab_of_laid rfl (h.filter λx=>x.1 != "platen/runs.says")⟩
