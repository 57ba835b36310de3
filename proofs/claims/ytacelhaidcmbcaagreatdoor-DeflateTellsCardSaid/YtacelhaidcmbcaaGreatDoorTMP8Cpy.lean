/- Texts of one place, one behind the other: P8Cpy, P8MathC. -/
import Derived.Test.YtacelhaidcmbcaaGreatDoorTMMathT
import Derived.Lib.BufferWrite
import Derived.Deep.RegionLaw
import Derived.Lib.Hide
set_option maxHeartbeats 8000000
set_option maxRecDepth 1000000
set_option linter.unusedVariables false
namespace Go.Proofs.YtacelhaidcmbcaaGreatDoor.M
open Go Go.Lib Go.RowKit
theorem z1x{P:Program}(w:World)(dT sT ty elem:TypeId)(g o dLen dCap m:Nat)(s:ByteArray)(cur:Array Value)(t:TypeId)
 (hu:P.underlying dT=some (.slice elem)) (hs:(P.info? elem).map (·.size)=some 1) (hg:w.heap[g]? =some (.cells cur t (0,0))) (hm:m=Nat.min s.size dLen) (hfit:o+m≤cur.size):
 (Builtin.copy_ #[dT,sT] ty #[.slice (some ⟨g,o,none⟩) dLen dCap,.string s]).run P w=
  .ok (goInt m) (w.setRow g (cur.toList.take o++byteCells (s.data.toList.take m)++cur.toList.drop (o+m)).toArray):=by
 have hms:m≤s.size:=by rw[hm];exact Nat.min_le_left _ _
 have hlen:(byteCells (s.data.toList.take m)).length=m:=by
  rw[byteCells_length,List.length_take,←size_eq];omega
 have hst:=run_storeCells_at P g o t (byteCells (s.data.toList.take m)) 0 cur w hg (by rw[hlen];simpa using hfit) (byteCells_one _)
 have htk:List.take m (List.map (fun b:UInt8=>Value.int IntKind.u8 (b.toNat:Int)) s.data.toList)=byteCells (s.data.toList.take m):=by
  rw[←List.map_take];rfl
 rw[hlen] at hst;simp only[Nat.add_zero] at hst;cases hq:P.info? elem with
 |none=>simp[hq] at hs
 |some i=>
  simp[Builtin.copy_,run_underlying hu,Builtin.lenOf,Builtin.firstCells,sizeOf,typeInfo,hq,←hm];rw[htk,hst];simp[Result.andThen]
theorem z30{P:Program}{ops:Array Oper}{o:Oper}{a:Act}{w:World}{K:Act→World→Prop}{Q:Exit→Act→World→Prop}{E:Prop}(hg:o.guard=none)(d s:Operand)(t t':TypeId)
 (ho:o.op=.call {callee:=.builtin .copy,args:= #[d,s],argTypes:= #[t,t']}) (v u:Value) (hd:a.eval d=v) (hs:a.eval s=u) {v':Value} {w':World}
 (hr:(Builtin.copy_ #[t,t'] o.type #[v,u]).run P w=.ok v' w') (hK:K (a.put o.dst v') w'):
 if Region.wanted o (yielded ops a.tmps)=true then Oper.wp P o a w K Q else E:=by
 rw[if_pos (by simp[Region.wanted,hg])];unfold Oper.wp execOp;simp only[ho,resolve,invoke,builtin,Sem.run_bind,Sem.run_pure,Result.andThen_ok,List.map_toArray,List.map_cons,List.map_nil,hd,hs,hr];exact hK
theorem Kept.setRow{S:Nat→Prop}{w w':World}(h:Kept S w w')(g:Nat)(hg:S g∨w.heap.size≤g)(cs:Array Value):Kept S w (w'.setRow g cs):=
 h.trans (T:=fun j=>j=g) ⟨rfl,rfl,rfl,by simp,fun k _ hk=>setRow_other _ _ _ _ (fun e=>hk (by rw[e]))⟩ (fun j hj=>by subst hj;exact hg)
end Go.Proofs.YtacelhaidcmbcaaGreatDoor.M
namespace Go.Proofs.YtacelhaidcmbcaaGreatDoor.V.Px
def byt(s:ByteArray)(i:Nat):Nat:=(s.data.toList.getD i 0).toNat
theorem z0H{s:ByteArray}{i:Nat}(h:i<s.size):(s[i]'h).toNat=byt s i:=by
 unfold byt;have h':i<s.data.toList.length:=by simpa using h
 rw[List.getD,qE h'];rfl
theorem z1C(s:ByteArray)(i:Nat):byt s i≤255:=by
 unfold byt;have:=(s.data.toList.getD i 0).toNat_lt;omega
def lg(s:ByteArray)(p k:Nat):Nat→Nat→Nat
 |0,n=>n
 |f+1,n=>if byt s (p+n)=byt s (k+n) then lg s p k f (n+1) else n
def most(s:ByteArray)(k:Nat):Nat:=min 258 (s.size - k)
def lng(s:ByteArray)(p k:Nat):Nat:=lg s p k (most s k) 0
structure ziy(s:ByteArray)(p k n:Nat):Prop where
 le:n≤most s k
 same:∀i,i<n→byt s (p+i)=byt s (k+i)
 stop:n=most s k∨byt s (p+n)≠byt s (k+n)
theorem zi6(s:ByteArray)(p k:Nat):∀f n,(∀i,i<n→byt s (p+i)=byt s (k+i))→f+n=most s k→ziy s p k (lg s p k f n)
 |0,n,h,e=>⟨by unfold lg;omega,h,.inl (by unfold lg;omega)⟩
 |f+1,n,h,e=>by
  unfold lg;by_cases c:byt s (p+n)=byt s (k+n)
  · rw[if_pos c]
    refine zi6 s p k f (n+1) (fun i hi=> ?_) (by omega);by_cases g:i=n
    · subst g;exact c
    · exact h i (by omega)
  · rw[if_neg c]
    exact⟨by omega,h,.inr c⟩
theorem z5X(s:ByteArray)(p k:Nat):ziy s p k (lng s p k):=zi6 s p k _ 0 (fun i hi=>by omega) (by omega)
theorem zbb(s:ByteArray)(p k:Nat):lng s p k≤258∧lng s p k≤s.size - k:=by
 have:=(z5X s p k).le;unfold most at this;omega
def at3(s:ByteArray)(p a b c:Nat):Bool:=decide (p+3≤s.size)&& (byt s p==a&& (byt s (p+1)==b&&byt s (p+2)==c))
theorem z3x{s:ByteArray}{p a b c:Nat}:at3 s p a b c=true↔p+3≤s.size∧byt s p=a∧byt s (p+1)=b∧byt s (p+2)=c:=by
 unfold at3;simp
def grp(s:ByteArray)(L:List Nat)(a b c:Nat):List Nat:=L.filter fun p=>at3 s p a b c
theorem z89(s:ByteArray)(L:List Nat)(p a b c:Nat):grp s (L++[p]) a b c=if at3 s p a b c=true then grp s L a b c++[p] else grp s L a b c:=by
 unfold grp;rw[List.filter_append];by_cases h:at3 s p a b c=true
 · simp[h]
 · simp[h]
def cnd(s:ByteArray)(L:List Nat)(k:Nat):List Nat:=
 if k+3≤s.size then(grp s L (byt s k) (byt s (k+1)) (byt s (k+2))).filter (fun p=>decide (p<k)&&decide (k≤p+32768)) else[]
def nr(s:ByteArray)(L:List Nat)(k:Nat)(d:Int):List Nat:=(cnd s L k).reverse.take d.toNat
theorem z5j{s:ByteArray}{L:List Nat}{k p:Nat}(h:p∈cnd s L k):p∈L∧p<k∧k≤p+32768∧k+3≤s.size∧byt s p=byt s k∧byt s (p+1)=byt s (k+1)∧byt s (p+2)=byt s (k+2):=by
 unfold cnd at h;by_cases c:k+3≤s.size
 · rw[if_pos c] at h
   obtain⟨h1,h2⟩:=List.mem_filter.1 h;unfold grp at h1;obtain⟨h3,h4⟩:=List.mem_filter.1 h1;have h5:=z3x.1 h4;simp at h2;exact⟨h3,h2.1,h2.2,c,h5.2⟩
 · rw[if_neg c] at h;cases h
theorem zaU{s:ByteArray}{L:List Nat}{k p:Nat}{d:Int}(h:p∈nr s L k d):p∈cnd s L k:=by
 unfold nr at h;exact List.mem_reverse.1 (List.mem_of_mem_take h)
theorem z8k{s:ByteArray}{L:List Nat}{k p:Nat}(h:p∈cnd s L k):3≤lng s p k:=by
 obtain⟨_,_,_,h1,h2,h3,h4⟩:=z5j h;have h5:=z5X s p k;rcases h5.stop with e|e
 · rw[e];unfold most;omega
 · apply Classical.byContradiction
   intro g;have:lng s p k=0∨lng s p k=1∨lng s p k=2:=by omega
   rcases this with g|g|g<;>rw[g] at e<;>exact e (by assumption)
theorem z66{l:List Nat}{i x:Nat}(h1:∀j y,l[j]? =some y→j<i→y<x)(h2:∀j y,l[j]? =some y→i≤j→x≤y):l.filter (fun p=>decide (p<x))=l.take i:=by
 rw[←List.take_append_drop i l,List.filter_append,List.take_append_drop]
 have e1:(l.take i).filter (fun p=>decide (p<x))=l.take i:=by
  rw[List.filter_eq_self];intro y hy;obtain⟨j,hj⟩:=List.mem_iff_getElem?.1 hy;rw[List.getElem?_take] at hj;by_cases c:j<i
  · rw[if_pos c] at hj;simpa using h1 j y hj c
  · rw[if_neg c] at hj;cases hj
 have e2:(l.drop i).filter (fun p=>decide (p<x))=[]:=by
  rw[List.filter_eq_nil_iff];intro y hy;obtain⟨j,hj⟩:=List.mem_iff_getElem?.1 hy;rw[List.getElem?_drop] at hj;have:=h2 _ y hj (by omega);simp;omega
 rw[e1,e2,List.append_nil]
theorem zbB{l:List Nat}{i:Nat}{x:Int}(h1:∀ (j y:Nat),l[j]? =some y→j<i→(y:Int)<x)(h2:∀ (j y:Nat),l[j]? =some y→i≤j→x≤(y:Int)):l.filter (fun p:Nat=>decide (x≤(p:Int)))=l.drop i:=by
 rw[←List.take_append_drop i l,List.filter_append,List.take_append_drop]
 have e1:(l.take i).filter (fun p:Nat=>decide (x≤(p:Int)))=[]:=by
  rw[List.filter_eq_nil_iff];intro y hy;obtain⟨j,hj⟩:=List.mem_iff_getElem?.1 hy;rw[List.getElem?_take] at hj;by_cases c:j<i
  · rw[if_pos c] at hj
    have:=h1 j y hj c;simp;omega
  · rw[if_neg c] at hj;cases hj
 have e2:(l.drop i).filter (fun p:Nat=>decide (x≤(p:Int)))=l.drop i:=by
  rw[List.filter_eq_self];intro y hy;obtain⟨j,hj⟩:=List.mem_iff_getElem?.1 hy;rw[List.getElem?_drop] at hj;have:=h2 _ y hj (by omega)
  simpa using this
 rw[e1,e2,List.nil_append]
theorem zgN{s:ByteArray}{L:List Nat}{k fr to:Nat}(hk:k+3≤s.size){l:List Nat}(hl:l=grp s L (byt s k) (byt s (k+1)) (byt s (k+2)))
 (f1:∀ (j y:Nat),l[j]? =some y→j<fr→(y:Int)<(k:Int) - 32768) (f2:∀ (j y:Nat),l[j]? =some y→fr≤j→(k:Int) - 32768≤(y:Int))
 (t1:∀ (j y:Nat),l[j]? =some y→j<to→y<k) (t2:∀ (j y:Nat),l[j]? =some y→to≤j→k≤y):cnd s L k=(l.take to).drop fr:=by
 unfold cnd;rw[if_pos hk,←hl]
 have e:(fun p:Nat=>decide (p<k)&&decide (k≤p+32768))=(fun p:Nat=>decide ((k:Int) - 32768≤(p:Int))&&decide (p<k)):=by
  funext p;rw[Bool.and_comm];congr 1;rw[decide_eq_decide];omega
 rw[e,←List.filter_filter,z66 t1 t2];refine zbB (fun j y hj hlt=> ?_) (fun j y hj hle=> ?_)
 · rw[List.getElem?_take] at hj
   by_cases c:j<to
   · rw[if_pos c] at hj;exact f1 j y hj hlt
   · rw[if_neg c] at hj;cases hj
 · rw[List.getElem?_take] at hj
   by_cases c:j<to
   · rw[if_pos c] at hj;exact f2 j y hj hle
   · rw[if_neg c] at hj;cases hj
theorem z7V(s:ByteArray)(L:List Nat)(k:Nat)(d:Int):(nr s L k d).length=min d.toNat (cnd s L k).length:=by
 unfold nr;rw[List.length_take,List.length_reverse]
def stp(s:ByteArray)(k:Nat)(over:Int)(m:Nat×Nat)(p:Nat):Nat×Nat:=if over<(lng s p k:Int)∧m.1<lng s p k then(lng s p k,k - p) else m
def fnd(s:ByteArray)(k:Nat)(nice over:Int):List Nat→Nat×Nat→Nat×Nat
 |[],m=>m
 |p::r,m=>if nice≤(lng s p k:Int) then stp s k over m p else fnd s k nice over r (stp s k over m p)
theorem zbx(s:ByteArray)(k:Nat)(nice over:Int):∀ (l:List Nat) (m:Nat×Nat),fnd s k nice over l m=m∨∃p,p∈l∧fnd s k nice over l m=(lng s p k,k - p)∧over<(lng s p k:Int)
 |[],m=> .inl rfl
 |p::r,m=>by
  have hs:stp s k over m p=m∨(stp s k over m p=(lng s p k,k - p)∧over<(lng s p k:Int)):=by
   unfold stp;by_cases c:over<(lng s p k:Int)∧m.1<lng s p k
   · rw[if_pos c];exact .inr ⟨rfl,c.1⟩
   · rw[if_neg c];exact .inl rfl
  unfold fnd;by_cases c:nice≤(lng s p k:Int)
  · rw[if_pos c]
    rcases hs with h|⟨h,h'⟩
    · exact .inl h
    · exact .inr ⟨p,by simp,h,h'⟩
  · rw[if_neg c]
    rcases zbx s k nice over r (stp s k over m p) with h|⟨q,hq,h,h'⟩
    · rw[h]
      rcases hs with g|⟨g,g'⟩
      · exact .inl g
      · exact .inr ⟨p,by simp,g,g'⟩
    · exact .inr ⟨q,by simp[hq],h,h'⟩
theorem zf0(s:ByteArray)(k:Nat)(nice over:Int)(p:Nat)(r:List Nat)(m:Nat×Nat)(h:¬nice≤(lng s p k:Int)):fnd s k nice over (p::r) m=fnd s k nice over r (stp s k over m p):=by
 rw[fnd,if_neg h]
theorem zby(s:ByteArray)(k:Nat)(nice over:Int)(p:Nat)(r:List Nat)(m:Nat×Nat)(h:nice≤(lng s p k:Int)):fnd s k nice over (p::r) m=stp s k over m p:=by
 rw[fnd,if_pos h]
end Go.Proofs.YtacelhaidcmbcaaGreatDoor.V.Px
