import Derived.Test.YthgilhebnlglkaaGreatDoorKMMathT
import Derived.Lib.BufferWrite
import Derived.Deep.RegionLaw
set_option linter.all false
set_option maxHeartbeats 0
set_option maxRecDepth 1000000
namespace Go.Proofs.YthgilhebnlglkaaGreatDoor
namespace M
open Go Go.Lib Go.RowKit
theorem aD{P:Program}(w:World)(p r ty a:TypeId)(g o e j m:Nat)(s:ByteArray)(c:Array Value)(t:TypeId)
 (u:P.underlying p=some (.slice a)) (hs:(P.info? a).map (·.size)=some 1) (q:w.heap[g]? =some (.cells c t (0,0))) (l:m=Nat.min s.size e) (h:o+m<=c.size):
 (Builtin.copy_ #[p,r] ty #[.slice (some ⟨g,o,none⟩) e j,.string s]).run P w=
  .ok (goInt m) (w.setRow g (c.toList.take o++byteCells (s.data.toList.take m)++c.toList.drop (o+m)).toArray):=by
 have v:m<=s.size:=(by rw[l];exact Nat.min_le_left _ _);have d:(byteCells (s.data.toList.take m)).length=m:=by
  rw[byteCells_length,Af,<-size_eq];omega
 have f:=run_storeCells_at P g o t (byteCells (s.data.toList.take m)) 0 c w q (by rw[d];simpa using h) (byteCells_one _);have k:List.take m (List.map (λb:UInt8=>Value.int IntKind.u8 (b.toNat:Int)) s.data.toList)=byteCells (s.data.toList.take m):=by
  rw[<-CS];rfl
 rw[d] at f;simp only[AI] at f;cases n:P.info? a with
 |none=>simp[n] at hs
 |some i=>
  simp[Builtin.copy_,run_underlying u,Builtin.lenOf,Builtin.firstCells,sizeOf,typeInfo,n,<-l];rw[k,f];simp[Result.andThen]
theorem cg{P:Program}{b:Array Oper}{o:Oper}{a:Act}{w:World}{K:Act->World->Prop}{Q:Exit->Act->World->Prop}{E:Prop}(f:o.guard=none)(d s:Operand)(t e:TypeId)
 (h:o.op=.call {callee:=.builtin .copy,args:= #[d,s],argTypes:= #[t,e]}) (v u:Value) (g:a.eval d=v) (hs:a.eval s=u) {c:Value} {w':World}
 (i:(Builtin.copy_ #[t,e] o.type #[v,u]).run P w=.ok c w') (j:K (a.put o.dst c) w'):
 if Region.wanted o (yielded b a.tmps)=true then Oper.wp P o a w K Q else E:=by
 rw[A7 (by simp[Region.wanted,f])];unfold Oper.wp execOp;simp only[h,resolve,invoke,builtin,Sem.run_bind,Sem.run_pure,Result.andThen_ok,AV,Al,Av,g,hs,i];exact j
theorem Kept.setRow{S:Nat->Prop}{w w':World}(h:Kept S w w')(g:Nat)(b:S g\/w.heap.size<=g)(cs:Array Value):Kept S w (w'.setRow g cs):=
 h.trans (T:=λj=>j=g) ⟨rfl,rfl,rfl,by simp,λk _ c=>setRow_other _ _ _ _ (λe=>c (by rw[e]))⟩ (λj a=>by subst a;exact b)
theorem Kept.freeze{S:Nat->Prop}{w w':World}(h:Kept S w w')(p:Addr)(c:S p.block\/w.heap.size<=p.block)(n:Nat):Kept S w (w'.freeze p n):=by
 refine h.trans (T:=λj=>j=p.block) ?_ (λj a=>by subst a;exact c);unfold World.freeze
 split
 · exact Kept.refl _ _
 · exact⟨rfl,rfl,rfl,by simp,λk d b=>by
    simp only[BT];rw[A0 (λe=>b e.symm)]⟩
