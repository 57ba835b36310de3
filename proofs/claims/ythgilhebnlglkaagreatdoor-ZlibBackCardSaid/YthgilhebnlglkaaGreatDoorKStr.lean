import Derived.Test.YthgilhebnlglkaaGreatDoorKMMathT
import Derived.Lib.AppendStr
set_option linter.all false
namespace Go.Proofs.YthgilhebnlglkaaGreatDoor
namespace M
open Go Go.Lib
theorem dM{P:Program}(w:World)(base:Nat)(t u ty e:TypeId)(i:TypeInfo)(x:P.underlying t=some (.slice e))(z:P.underlying u=some .string)(hi:P.info? e=some i)(G:i.zero=some (.int .u8 0))
 (b:i.size=1) (l:i.bytes=1) (v:Value) (n:Nat) (m:List Value) (d:w.ownsRow base e 1 v n m) (s:ByteArray) (hs:n+s.size<=1000000000) (j:base<=w.heap.size):
 ∃D c w',(Builtin.append_ #[t,u] ty #[v,.string s]).run P w=.ok (.slice D (n+s.size) c) w'/\w'.ownsRow base e 1 (.slice D (n+s.size) c) (n+s.size) (m++strCells s)/\w.grownBy w' v.ownBlock/\
  ∀a,D=some a->v.ownBlock=some a.block\/w.heap.size<=a.block:=by
 have q:n+s.size<=maxLen:=(by unfold maxLen;omega);obtain⟨Y,w',p,y,J,_⟩:=run_append_own_string (P:=P) w base t u ty e i x z hi G b l v n m d s q (by omega) j;rcases y.2 with⟨rfl,H⟩|⟨g,F,N,rfl,T,W,Q,O,V,R⟩
 · refine⟨none,0,w',?_,?_,J,λa A=>by cases A⟩
   · rw[H];exact p
   · rw[H];rw[H] at y;exact y
 · refine⟨some ⟨g,0,none⟩,F,w',p,y,J,λa A=> ?_⟩
   obtain rfl:(⟨g,0,none⟩:Addr)=a:=by simpa using A
   show v.ownBlock=some g\/w.heap.size<=g
   have C:m.length=n:=(by simpa using d.1);rcases d.2 with⟨rfl,rfl⟩|⟨B,h,r,rfl,U,E,K,M,L,I⟩
   · obtain⟨X,Z,f,S,_,_⟩:=run_append_own_string (P:=P) w w.heap.size t u ty e i x z hi G b l (.slice none 0 0) 0 m ⟨d.1,.inl ⟨rfl,rfl⟩⟩ s q (by omega) qR
     have o:=p.symm.trans f;injection o with e1 e2
     subst e1;exact .inr (S.lt g rfl).1
   · by_cases k:n+s.size<=h
     · have f:=run_append_room_string (P:=P) w t u ty e i x z hi b B n h r E s k (by omega)
       have o:=p.symm.trans f;injection o with e1 e2
       injection e1 with e3 e4 e5
       injection e3 with e6
       injection e6 with e7
       exact .inl (by rw[e7];rfl)
     · have f:=run_append_grow_string (P:=P) w t u ty e i (.int .u8 0) x z hi G ⟨B,0,none⟩ n h m (by rw[b];simpa using C) (d.cells (g:=B) rfl) s (by omega) (by omega) (by rw[l];exact growslice_fits (by omega) (by omega))
       have o:=p.symm.trans f;injection o with e1 e2
       injection e1 with e3 e4 e5
       injection e3 with e6
       injection e6 with e7
       exact .inr (by rw[e7];exact qR)
theorem cN{P:Program}{w:World}{g:Array Oper}{b:List Oper}{o:Oper}{a:Act}{Q:Exit->Act->World->Prop}(m:o.guard=none)(sl x:Operand)(t u:TypeId)
 (y:o.op=.call {callee:=.builtin .append,args:= #[sl,x],argTypes:= #[t,u]})
 (base:Nat) (e:TypeId) (i:TypeInfo) (z:P.underlying t=some (.slice e)) (F:P.underlying u=some .string) (hi:P.info? e=some i) (E:i.zero=some (.int .u8 0))
 (f:i.size=1) (p:i.bytes=1) (v:Value) (n:Nat) (l:List Value) (hs:a.eval sl=v) (k:w.ownsRow base e 1 v n l) (s:ByteArray) (q:a.eval x=.string s) (G:n+s.size<=1000000000) (d:base<=w.heap.size)
 (h:∀j c w',w'.ownsRow base e 1 (.slice j (n+s.size) c) (n+s.size) (l++strCells s)->w.grownBy w' v.ownBlock->(∀a,j=some a->v.ownBlock=some a.block\/w.heap.size<=a.block)->wpList P g Q b (a.put o.dst (.slice j (n+s.size) c)) w'):
 wpList P g Q (o::b) a w:=by
 refine wpList_plain m λK r=> ?_
 obtain⟨j,c,w',C,A,B,D⟩:=dM (P:=P) w base t u o.type e i z F hi E f p v n l k s G d;unfold Oper.wp execOp;simp only[y,resolve,invoke,builtin,Sem.run_bind,Sem.run_pure,Result.andThen_ok,AV,Al,Av,hs,q,C];exact r _ _ (h j c w' A B D)
