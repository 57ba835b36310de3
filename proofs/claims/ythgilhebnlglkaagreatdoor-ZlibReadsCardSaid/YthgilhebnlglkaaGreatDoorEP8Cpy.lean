import Derived.Test.YthgilhebnlglkaaGreatDoorEMMathT
import Derived.Lib.BufferWrite
import Derived.Deep.RegionLaw
set_option linter.all false
set_option maxHeartbeats 8000000
set_option maxRecDepth 1000000
namespace Go.Proofs.YthgilhebnlglkaaGreatDoor.M
open Go Go.Lib Go.RowKit
theorem z0B{P:Program}(w:World)(dT sT ty elem:TypeId)(g o dLen dCap m:Nat)(s:ByteArray)(cur:Array Value)(t:TypeId)
 (hu:P.underlying dT=some (.slice elem)) (hs:(P.info? elem).map (·.size)=some 1) (hg:w.heap[g]? =some (.cells cur t (0,0))) (hm:m=Nat.min s.size dLen) (hfit:o+m<=cur.size):
 (Builtin.copy_ #[dT,sT] ty #[.slice (some ⟨g,o,none⟩) dLen dCap,.string s]).run P w=
  .ok (goInt m) (w.setRow g (cur.toList.take o++byteCells (s.data.toList.take m)++cur.toList.drop (o+m)).toArray):=by
 have hms:m<=s.size:=(by rw[hm];exact Nat.min_le_left _ _);have hlen:(byteCells (s.data.toList.take m)).length=m:=by
  rw[byteCells_length,List.length_take,<-size_eq];omega
 have hst:=run_storeCells_at P g o t (byteCells (s.data.toList.take m)) 0 cur w hg (by rw[hlen];simpa using hfit) (byteCells_one _);have htk:List.take m (List.map (λb:UInt8=>Value.int IntKind.u8 (b.toNat:Int)) s.data.toList)=byteCells (s.data.toList.take m):=by
  rw[<-List.map_take];rfl
 rw[hlen] at hst;simp only[Nat.add_zero] at hst;cases hq:P.info? elem with
 |none=>simp[hq] at hs
 |some i=>
  simp[Builtin.copy_,run_underlying hu,Builtin.lenOf,Builtin.firstCells,sizeOf,typeInfo,hq,<-hm];rw[htk,hst];simp[Result.andThen]
theorem z2W{P:Program}{ops:Array Oper}{o:Oper}{a:Act}{w:World}{K:Act->World->Prop}{Q:Exit->Act->World->Prop}{E:Prop}(hg:o.guard=none)(d s:Operand)(t t':TypeId)
 (ho:o.op=.call {callee:=.builtin .copy,args:= #[d,s],argTypes:= #[t,t']}) (v u:Value) (hd:a.eval d=v) (hs:a.eval s=u) {v':Value} {w':World}
 (hr:(Builtin.copy_ #[t,t'] o.type #[v,u]).run P w=.ok v' w') (hK:K (a.put o.dst v') w'):
 if Region.wanted o (yielded ops a.tmps)=true then Oper.wp P o a w K Q else E:=by
 rw[if_pos (by simp[Region.wanted,hg])];unfold Oper.wp execOp;simp only[ho,resolve,invoke,builtin,Sem.run_bind,Sem.run_pure,Result.andThen_ok,List.map_toArray,List.map_cons,List.map_nil,hd,hs,hr];exact hK
theorem Kept.setRow{S:Nat->Prop}{w w':World}(h:Kept S w w')(g:Nat)(hg:S g\/w.heap.size<=g)(cs:Array Value):Kept S w (w'.setRow g cs):=
 h.trans (T:=λj=>j=g) ⟨rfl,rfl,rfl,by simp,λk _ hk=>setRow_other _ _ _ _ (λe=>hk (by rw[e]))⟩ (λj hj=>by subst hj;exact hg)
theorem Kept.freeze{S:Nat->Prop}{w w':World}(h:Kept S w w')(p:Addr)(hg:S p.block\/w.heap.size<=p.block)(n:Nat):Kept S w (w'.freeze p n):=by
 refine h.trans (T:=λj=>j=p.block) ?_ (λj hj=>by subst hj;exact hg);unfold World.freeze
 split
 · exact Kept.refl _ _
 · exact⟨rfl,rfl,rfl,by simp,λk hk hS=>by
    simp only[Array.getElem?_modify];rw[if_neg (λe=>hS e.symm)]⟩
