/- Texts of one place, one behind the other: BlA, BlB, BlN. -/
import Derived.Test.YtacelhaidcmbcaaGreatDoorTMBwX
import Derived.Test.YtacelhaidcmbcaaGreatDoorTMBwG
import Derived.Test.YtacelhaidcmbcaaGreatDoorTQtD
import Derived.Test.YtacelhaidcmbcaaGreatDoorTMRns
set_option linter.unusedVariables false
set_option linter.unusedSimpArgs false
namespace Go.Proofs.YtacelhaidcmbcaaGreatDoor.V
open Go Go.RowKit M U
structure Bks(T:World→Prop):Prop where
 keep:∀ {w w':World},T w→Below w.heap.size w w'→T w'
 fixed:∀w,T w→Calls Tryz.prog 104 #[] w fun e w'=> ∃A1 c1 A2 c2,e=.returned (.agg #[.slice A1 288 c1,.slice A2 30 c2])∧z09 w' .u8 A1 288 (fun i=>(fxl i:Int))∧z09 w' .u8 A2 30 (fun _=>((5:Nat):Int))∧Below w.heap.size w w'
 order:∀w,T w→Calls Tryz.prog 153 #[] w fun e w'=> ∃A c,e=.returned (.slice A 19 c)∧z09 w' .u8 A 19 (fun i=>((ord.getD i 0:Nat):Int))∧Below w.heap.size w w'
 size:∀ (k:Nat) (A:Option Addr) (n c:Nat) (L:List Tk) (raw:ByteArray) (p:Nat) (w:World),T w→IsTks w A n L→n≤100000→raw.size≤1000000→p≤1000000→k≤2→(k≠0→∀t∈L,may t=true)→
  Calls Tryz.prog 65 #[.int .u8 k,.slice A n c,.string raw,.int .i64 p] w fun e w'=>e=.returned (.tuple #[.int .i64 ((bkm k L raw false (p%8)).length:Nat),.int .i64 0])∧Below w.heap.size w w'
 sizeNo:∀ (k:Nat) (A:Option Addr) (n c:Nat) (L:List Tk) (raw:ByteArray) (p:Nat) (w:World),T w→IsTks w A n L→n≤100000→raw.size≤1000000→p≤1000000→k≤255→(2<k∨(k≠0∧∃i,i<n∧may (L.getD i default)=false))→
  Calls Tryz.prog 65 #[.int .u8 k,.slice A n c,.string raw,.int .i64 p] w fun e w'=>e=.returned (.tuple #[.int .i64 0,.int .i64 2])∧Below w.heap.size w w'
theorem zg1(n:Nat):∀x∈List.replicate n 0,x≤1:=fun x hx=>by rw[List.eq_of_mem_replicate hx];omega
theorem z0s{a b:List Nat}(ha:∀x∈a,x≤1)(hb:∀x∈b,x≤1):∀x∈a++b,x≤1:=fun x hx=>(List.mem_append.1 hx).elim (ha x) (hb x)
theorem z21{α:Type}{f:α→List Nat}{l:List α}(h:∀a∈l,∀x∈f a,x≤1):∀x∈l.flatMap f,x≤1:=fun x hx=>by
 obtain⟨a,ha,hx⟩:=List.mem_flatMap.1 hx;exact h a ha x hx
theorem z9H(l1:Nat→Nat)(n1:Nat)(l2:Nat→Nat)(n2:Nat)(y:Sy):∀x∈wsy l1 n1 l2 n2 y,x≤1:=by
 unfold wsy;refine z0s ?_ (z0C _ _)
 split<;>exact zc7 _ _
theorem zfN(o:Nat)(s:ByteArray)(last:Bool):∀x∈stb o s last,x≤1:=by
 unfold stb;exact z0s (z0s (z0s (z0s (z6W _ _) (zg1 _)) (z0C _ _)) (z0C _ _)) (z21 fun _ _=>z0C _ _)
theorem zgD(L:List Tk):∀x∈hdd L,x≤1:=by
 unfold hdd dyb;refine z0s (z0s (z0s (z0s (z0C _ _) (z0C _ _)) (z0C _ _)) (z21 fun _ _=>z0C _ _)) (z21 fun a _=> ?_);unfold wrn;exact z0s (zc7 _ _) (z0C _ _)
theorem zgX(k:Nat)(L:List Tk)(raw:ByteArray)(last:Bool)(o:Nat):∀x∈blk k L raw last o,x≤1:=by
 unfold blk
 split
 · exact zfN _ _ _
 · split
   · exact z0s (z6W _ _) (z21 fun y _=>z9H _ _ _ _ y)
   · exact z0s (z0s (z6W _ _) (zgD L)) (z21 fun y _=>z9H _ _ _ _ y)
theorem zdu(n:Nat)(l:List Nat):nb (List.replicate n 0++l)=nb l*2^n:=by
 rw[z0E,List.length_replicate]
 have:nb (List.replicate n 0)=0:=by
  induction n with
  |zero=>rfl
  |succ n ih=>rw[List.replicate_succ,nb,ih]
 rw[this,Nat.zero_add]
theorem zfC(V n:Nat):(⟨((List.range n).map fun i=>UInt8.ofNat (byn V i)).toArray⟩:ByteArray)=zee (le V n):=by
 unfold zee;rw[zgz];rfl
theorem ze7(c s:Nat):cdb c (s+1)=c/2^s%2::cdb c s:=by
 unfold cdb;rw[List.range_succ_eq_map,List.map_cons,List.map_map];congr 1;apply List.map_congr_left
 intro i _;show c/2^(s+1 - 1 - (i+1))%2=_
 congr 3;omega
theorem zhW(n:Nat):nb (List.replicate n 0)=0:=by
 have h:=zdu n [];rw[List.append_nil] at h;rw[h];simp[nb]
theorem zeN(s:ByteArray):∀k,k≤s.size→nb (byb s k)=vl (s.data.toList.take k)
 |0,_=>rfl
 |k+1,h=>by
  have hk:k<s.size:=h;rw[z26,z0E,zeN s k (by omega),zaY,z0j,z5w s k hk,zfh hk];have:=zfg s k;rw[show(2:Nat)^8=256 from rfl,Nat.mod_eq_of_lt (by omega),Nat.mul_comm k 8,←p8]
theorem z96(s:ByteArray):nb (byb s s.size)=vl s.data.toList:=by rw[zeN s s.size qR,z6t]
theorem z6J(V o:Nat)(X Y:List Nat):V+nb (X++Y)*2^o=V+nb X*2^o+nb Y*2^(o+X.length):=by
 rw[z0E,Nat.add_mul,Nat.pow_add,Nat.mul_assoc,Nat.mul_comm (2^X.length) (2^o),Nat.add_assoc]
theorem zet(L:Nat):z0m L=L+pd L:=by unfold z0m pd;omega
section
variable {w:World} {B p:Nat} {S:Nat→Prop} {most:Int} {V o:Nat} {X:List Nat}
theorem z9A(h:Wt w B p S most (V+nb X*2^o) (o+X.length))(hL:o+X.length≤900000000):
 Calls Tryz.prog 125 #[.pointer (some ⟨p,0,none⟩)] w (Did w B p S most (0,V+nb (X++List.replicate (pd (o+X.length)) 0)*2^o,o+(X++List.replicate (pd (o+X.length)) 0).length)):=by
 have g:=Go.Proofs.YtacelhaidcmbcaaGreatDoor.align_any h hL;rw[zet] at g;rw[z6J,zhW,Nat.zero_mul,Nat.add_zero,qA,List.length_replicate,←Nat.add_assoc];exact g
theorem z9r(h:Wt w B p S most (V+nb X*2^o) (o+X.length))(s:ByteArray)(hs:s.size≤100000000)(hL:o+X.length≤900000000)(h8:(o+X.length)%8=0)(hm:(((o+(X++byb s s.size).length+7) /8:Nat):Int)≤most):
 Calls Tryz.prog 126 #[.pointer (some ⟨p,0,none⟩),.string s] w (Did w B p S most (0,V+nb (X++byb s s.size)*2^o,o+(X++byb s s.size).length)):=by
 have g:=Go.Proofs.YtacelhaidcmbcaaGreatDoor.bytes_any h s hL hs;have ha:z0m (o+X.length)=o+X.length:=by unfold z0m;omega
 rw[qA,z0j] at hm;rw[z4n (by omega),ha] at g;rw[z6J,z96,qA,z0j,←Nat.add_assoc,Nat.mul_comm s.size 8];exact g
theorem z7d(h:Wt w B p S most (V+nb X*2^o) (o+X.length))(s:ByteArray)(hs:s.size≤100000000)(hL:o+X.length≤900000000)(h8:(o+X.length)%8=0)(hm:¬(((o+(X++byb s s.size).length+7) /8:Nat):Int)≤most):
 Calls Tryz.prog 126 #[.pointer (some ⟨p,0,none⟩),.string s] w (Did w B p S most (4,V+nb X*2^o,o+X.length)):=by
 have g:=Go.Proofs.YtacelhaidcmbcaaGreatDoor.bytes_any h s hL hs;rw[qA,z0j] at hm;rw[z3t (by omega)] at g;exact g
end
end Go.Proofs.YtacelhaidcmbcaaGreatDoor.V
