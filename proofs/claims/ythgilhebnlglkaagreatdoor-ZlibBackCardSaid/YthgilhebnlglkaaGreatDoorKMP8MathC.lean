import Derived.Test.YthgilhebnlglkaaGreatDoorKP8Cpy
import Derived.Maps.GroupsBeside
import Derived.WideKeyEntry
import Derived.DeepKeys4
import Derived.Test.YthgilhebnlglkaaGreatDoorKMPkE
import Derived.Lib.LazyBuf
import Derived.RangeFuncBox
import Derived.RangeFuncCalls
import Derived.Shelf.Abstract
import Derived.OwnWalkIn
import Derived.TacticsInMore
import Derived.LoopNIn
import Derived.LoopIn
import Derived.Test.YthgilhebnlglkaaGreatDoorKMRns
import Derived.Lib.ConvBytes
set_option linter.all false
set_option maxHeartbeats 0
set_option maxRecDepth 1000000
open Go.Proofs.Tryz
namespace Go.Proofs.YthgilhebnlglkaaGreatDoor
namespace V.Px
def byt(s:ByteArray)(i:Nat):Nat:=(s.data.toList.getD i 0).toNat
theorem pw{s:ByteArray}{i:Nat}(h:i<s.size):(s[i]'h).toNat=byt s i:=by
 unfold byt;have a:i<s.data.toList.length:=(by simpa using h);rw[List.getD,qE a];rfl
theorem cU(s:ByteArray)(i:Nat):byt s i<=255:=by
 unfold byt;have:=(s.data.toList.getD i 0).toNat_lt;omega
def lg(s:ByteArray)(p k:Nat):Nat->Nat->Nat
 |0,n=>n
 |f+1,n=>if byt s (p+n)=byt s (k+n) then lg s p k f (n+1) else n
def most(s:ByteArray)(k:Nat):Nat:=min 258 (s.size - k)
def lng(s:ByteArray)(p k:Nat):Nat:=lg s p k (most s k) 0
structure Ky(s:ByteArray)(p k n:Nat):Prop where
 le:n<=most s k
 same:∀i,i<n->byt s (p+i)=byt s (k+i)
 stop:n=most s k\/byt s (p+n)≠byt s (k+n)
theorem JI(s:ByteArray)(p k:Nat):∀f n,(∀i,i<n->byt s (p+i)=byt s (k+i))->f+n=most s k->Ky s p k (lg s p k f n)
 |0,n,h,e=>⟨by unfold lg;omega,h,.inl (by unfold lg;omega)⟩
 |f+1,n,h,e=>by
  unfold lg;by_cases c:byt s (p+n)=byt s (k+n)
  · rw[A7 c]
    refine JI s p k f (n+1) (λi hi=> ?_) (by omega);by_cases g:i=n
    · subst g;exact c
    · exact h i (by omega)
  · rw[A0 c]
    exact⟨by omega,h,.inr c⟩
theorem oF(s:ByteArray)(p k:Nat):Ky s p k (lng s p k):=JI s p k _ 0 (λi hi=>by omega) (by omega)
theorem Er(s:ByteArray)(p k:Nat):lng s p k<=258/\lng s p k<=s.size - k:=by
 have:=(oF s p k).le;unfold most at this;omega
def at3(s:ByteArray)(p a b c:Nat):Bool:=decide (p+3<=s.size)&& (byt s p==a&& (byt s (p+1)==b&&byt s (p+2)==c))
theorem ju{s:ByteArray}{p a b c:Nat}:at3 s p a b c=true↔p+3<=s.size/\byt s p=a/\byt s (p+1)=b/\byt s (p+2)=c:=by
 unfold at3;simp
def grp(s:ByteArray)(L:List Nat)(a b c:Nat):List Nat:=L.filter λp=>at3 s p a b c
theorem oR(s:ByteArray)(L:List Nat)(p a b c:Nat):grp s (L++[p]) a b c=if at3 s p a b c=true then grp s L a b c++[p] else grp s L a b c:=by
 unfold grp;rw[DJ];by_cases h:at3 s p a b c=true
 · simp[h]
 · simp[h]
def cnd(s:ByteArray)(L:List Nat)(k:Nat):List Nat:=
 if k+3<=s.size then(grp s L (byt s k) (byt s (k+1)) (byt s (k+2))).filter (λp=>decide (p<k)&&decide (k<=p+32768)) else[]
def nr(s:ByteArray)(L:List Nat)(k:Nat)(d:Int):List Nat:=(cnd s L k).reverse.take d.toNat
theorem mO{s:ByteArray}{L:List Nat}{k p:Nat}(h:p∈cnd s L k):p∈L/\p<k/\k<=p+32768/\k+3<=s.size/\byt s p=byt s k/\byt s (p+1)=byt s (k+1)/\byt s (p+2)=byt s (k+2):=by
 unfold cnd at h;by_cases c:k+3<=s.size
 · rw[A7 c] at h
   obtain⟨b,a⟩:=List.mem_filter.1 h;unfold grp at b;obtain⟨d,e⟩:=List.mem_filter.1 b;have f:=ju.1 e;simp at a;exact⟨d,a.1,a.2,c,f.2⟩
 · rw[A0 c] at h;cases h
theorem Ef{s:ByteArray}{L:List Nat}{k p:Nat}{d:Int}(h:p∈nr s L k d):p∈cnd s L k:=by
 unfold nr at h;exact List.mem_reverse.1 (AO h)
theorem pj{s:ByteArray}{L:List Nat}{k p:Nat}(h:p∈cnd s L k):3<=lng s p k:=by
 obtain⟨_,_,_,b,c,d,f⟩:=mO h;have a:=oF s p k;rcases a.stop with e|e
 · rw[e];unfold most;omega
 · apply Classical.byContradiction
   intro g;have:lng s p k=0\/lng s p k=1\/lng s p k=2:=(by omega);rcases this with g|g|g<;>rw[g] at e<;>exact e (by assumption)
theorem vb{l:List Nat}{i x:Nat}(f:∀j y,l[j]? =some y->j<i->y<x)(g:∀j y,l[j]? =some y->i<=j->x<=y):l.filter (λp=>decide (p<x))=l.take i:=by
 rw[<-Bb i l,DJ,Bb];have d:(l.take i).filter (λp=>decide (p<x))=l.take i:=by
  rw[List.filter_eq_self];intro y b;obtain⟨j,a⟩:=Cx.1 b;rw[AD] at a;by_cases c:j<i
  · rw[A7 c] at a;simpa using f j y a c
  · rw[A0 c] at a;cases a
 have e:(l.drop i).filter (λp=>decide (p<x))=[]:=by
  rw[List.filter_eq_nil_iff];intro y b;obtain⟨j,a⟩:=Cx.1 b;rw[Bm] at a;have:=g _ y a (by omega);simp;omega
 rw[d,e,Az]
theorem vc{l:List Nat}{i:Nat}{x:Int}(f:∀ (j y:Nat),l[j]? =some y->j<i->(y:Int)<x)(g:∀ (j y:Nat),l[j]? =some y->i<=j->x<=(y:Int)):l.filter (λp:Nat=>decide (x<=(p:Int)))=l.drop i:=by
 rw[<-Bb i l,DJ,Bb];have d:(l.take i).filter (λp:Nat=>decide (x<=(p:Int)))=[]:=by
  rw[List.filter_eq_nil_iff];intro y b;obtain⟨j,a⟩:=Cx.1 b;rw[AD] at a;by_cases c:j<i
  · rw[A7 c] at a
    have:=f j y a c;simp;omega
  · rw[A0 c] at a;cases a
 have e:(l.drop i).filter (λp:Nat=>decide (x<=(p:Int)))=l.drop i:=by
  rw[List.filter_eq_self];intro y b;obtain⟨j,a⟩:=Cx.1 b;rw[Bm] at a;have:=g _ y a (by omega)
  simpa using this
 rw[d,e,Ap]
theorem Hx{s:ByteArray}{L:List Nat}{k fr b:Nat}(i:k+3<=s.size){l:List Nat}(m:l=grp s L (byt s k) (byt s (k+1)) (byt s (k+2)))
 (g:∀ (j y:Nat),l[j]? =some y->j<fr->(y:Int)<(k:Int) - 32768) (h:∀ (j y:Nat),l[j]? =some y->fr<=j->(k:Int) - 32768<=(y:Int))
 (n:∀ (j y:Nat),l[j]? =some y->j<b->y<k) (o:∀ (j y:Nat),l[j]? =some y->b<=j->k<=y):cnd s L k=(l.take b).drop fr:=by
 unfold cnd;rw[A7 i,<-m];have e:(λp:Nat=>decide (p<k)&&decide (k<=p+32768))=(λp:Nat=>decide ((k:Int) - 32768<=(p:Int))&&decide (p<k)):=by
  funext p;rw[Bool.and_comm];congr 1;rw[Cj];omega
 rw[e,<-List.filter_filter,vb n o];refine vc (λj y a f=> ?_) (λj y a d=> ?_)
 · rw[AD] at a
   by_cases c:j<b
   · rw[A7 c] at a;exact g j y a f
   · rw[A0 c] at a;cases a
 · rw[AD] at a
   by_cases c:j<b
   · rw[A7 c] at a;exact h j y a d
   · rw[A0 c] at a;cases a
theorem tW(s:ByteArray)(L:List Nat)(k:Nat)(d:Int):(nr s L k d).length=min d.toNat (cnd s L k).length:=by
 unfold nr;rw[Af,List.length_reverse]
def stp(s:ByteArray)(k:Nat)(over:Int)(m:Nat×Nat)(p:Nat):Nat×Nat:=if over<(lng s p k:Int)/\m.1<lng s p k then(lng s p k,k - p) else m
def fnd(s:ByteArray)(k:Nat)(nice over:Int):List Nat->Nat×Nat->Nat×Nat
 |[],m=>m
 |p::r,m=>if nice<=(lng s p k:Int) then stp s k over m p else fnd s k nice over r (stp s k over m p)
theorem uX(s:ByteArray)(k:Nat)(a over:Int):∀ (l:List Nat) (m:Nat×Nat),fnd s k a over l m=m\/∃p,p∈l/\fnd s k a over l m=(lng s p k,k - p)/\over<(lng s p k:Int)
 |[],m=> .inl rfl
 |p::r,m=>by
  have hs:stp s k over m p=m\/(stp s k over m p=(lng s p k,k - p)/\over<(lng s p k:Int)):=by
   unfold stp;by_cases c:over<(lng s p k:Int)/\m.1<lng s p k
   · rw[A7 c];exact .inr ⟨rfl,c.1⟩
   · rw[A0 c];exact .inl rfl
  unfold fnd;by_cases c:a<=(lng s p k:Int)
  · rw[A7 c]
    rcases hs with h|⟨h,h'⟩
    · exact .inl h
    · exact .inr ⟨p,by simp,h,h'⟩
  · rw[A0 c]
    rcases uX s k a over r (stp s k over m p) with h|⟨q,hq,h,h'⟩
    · rw[h]
      rcases hs with g|⟨g,g'⟩
      · exact .inl g
      · exact .inr ⟨p,by simp,g,g'⟩
    · exact .inr ⟨q,by simp[hq],h,h'⟩
theorem EA(s:ByteArray)(k:Nat)(a over:Int)(p:Nat)(r:List Nat)(m:Nat×Nat)(h:¬a<=(lng s p k:Int)):fnd s k a over (p::r) m=fnd s k a over r (stp s k over m p):=by
 rw[fnd,A0 h]
theorem va(s:ByteArray)(k:Nat)(a over:Int)(p:Nat)(r:List Nat)(m:Nat×Nat)(h:a<=(lng s p k:Int)):fnd s k a over (p::r) m=stp s k over m p:=by
 rw[fnd,A7 h]
end V.Px
namespace V.Px
open Go Go.Maps Go.WideElems Go.MapKept Go.RowKit
open Go.ChangeMaps (setBlock heap_setBlock_same heap_setBlock_other modify_eq_set)
section
variable {P:Program} {k:TypeId}
theorem ky{α:Type}{l:List α}(h:l.Nodup){i j:Nat}{x:α}(hi:l[i]? =some x)(g:l[j]? =some x):i=j:=by
 obtain⟨d,a⟩:=An.1 hi;obtain⟨e,b⟩:=An.1 g;have f:=List.pairwise_iff_getElem.1 h;rcases CE i j with c|c|c
 · exact absurd (a.trans b.symm) (f i j d e c)
 · exact c
 · exact absurd (b.trans a.symm) (f j i e d c)
theorem dE(K:Keyed P k){key:Value}{q:Lit}(b:keyOf P k key=some q){a:List MapEntry}(p:(a.map (·.key)).Nodup)(g:∀e∈a,∃l,keyOf P k e.key=some l):
 ((∀u:World,(Instr.findKey k key a).run P u=.ok none u)/\∀e∈a,e.key≠key)\/∃j e,(∀u:World,(Instr.findKey k key a).run P u=.ok (some (j,e.val)) u)/\a[j]? =some e/\e.key=key:=by
 by_cases c:∃e∈a,e.key=key
 · obtain⟨e,h,f⟩:=c
   obtain⟨j,n⟩:=Cx.1 h;refine .inr ⟨j,e,λu=> ?_,n,f⟩;rcases K.find u b a g with⟨_,d⟩|⟨o,e',i,d,m⟩
   · exact absurd f (d e h)
   · have r:(a.map (·.key))[j]? =some key:=by rw[Am,n];simp[f]
     have s:(a.map (·.key))[o]? =some key:=(by rw[Am,d];simp[m]);obtain rfl:=ky p r s;rw[n] at d;cases d;exact i
 · refine .inl ⟨λu=> ?_,λe h f=>c ⟨e,h,f⟩⟩
   rcases K.find u b a g with⟨i,_⟩|⟨o,e',_,d,m⟩
   · exact i
   · exact absurd ⟨e',BP d,m⟩ c
theorem Hg{t e:TypeId}(K:Keyed P k)(i:P.underlying t=some (.map k e)){z:Value}(s:∀u:World,(zeroValue e).run P u=.ok z u){b:Nat}{f:Array MapEntry}{clock:Nat}(q:(f.toList.map (·.key)).Nodup)(h:∀e∈f.toList,∃l,keyOf P k e.key=some l)
 {d:Value} {v:Lit} (a:keyOf P k d=some v):
 ∃ (r:Value) (o:Obj),∀x:World,x.heap[b]? =some (.map f clock)->(Instr.mapEntry t (.map (some b)) d).run P x=.ok r (setBlock x b o):=by
 rcases dE K a q h with⟨g,_⟩|⟨j,e0,g,m,n⟩
 · exact⟨_,_,λx c=>by simp[Instr.mapEntry,run_underlying i,MapKept.run_getObj_map c,K.check x false a,g,s,MapKept.run_setObj_map _ c,Result.andThen];exact⟨rfl,rfl⟩⟩
 · have p:f[j]? =some e0:=by simpa using m
   exact⟨_,_,λx c=>by simp[Instr.mapEntry,run_underlying i,MapKept.run_getObj_map c,K.check x false a,g,p,n,K.stays x a,MapKept.run_setObj_map _ c,Result.andThen];exact⟨rfl,rfl⟩⟩
theorem Fj{t e:TypeId}(K:Keyed P k)(i:P.underlying t=some (.map k e)){b:Nat}{f:Array MapEntry}{clock:Nat}(q:(f.toList.map (·.key)).Nodup)(h:∀e∈f.toList,∃l,keyOf P k e.key=some l)
 {d:Value} {r:Lit} (a:keyOf P k d=some r) (val:Value):
 ∃o:Obj,∀x:World,x.heap[b]? =some (.map f clock)->(Instr.mapUpdate t (.map (some b)) d val).run P x=.ok () (setBlock x b o):=by
 rcases dE K a q h with⟨g,_⟩|⟨j,e0,g,m,n⟩
 · exact⟨_,λx c=>by simp[Instr.mapUpdate,run_underlying i,MapKept.run_getObj_map c,K.check x false a,g,MapKept.run_setObj_map _ c,Result.andThen];rfl⟩
 · have p:f[j]? =some e0:=by simpa using m
   exact⟨_,λx c=>by simp[Instr.mapUpdate,run_underlying i,MapKept.run_getObj_map c,K.check x false a,g,p,n,K.stays x a,MapKept.run_setObj_map _ c,Result.andThen];rfl⟩
theorem eu{w:World}{b:Nat}{o o':Obj}(a:b<w.heap.size)(h:setBlock w b o=setBlock w b o'):o=o':=by
 have:=congrArg (λx:World=>x.heap[b]?) h
 simpa [setBlock,a] using this
end
section
variable {H:Type} {P:Program} {k:TypeId} {w:World} {base:Nat} {e:TypeId} {q:IntKind} {b n:Nat} {D:DataW H}
theorem gu{w:World}{b:Nat}(o o':Obj):setBlock (setBlock w b o) b o'=setBlock w b o':=by
 simp[setBlock]
theorem ae(w:World)(b:Nat)(o:Obj):(setBlock w b o).heap.size=w.heap.size:=by simp[setBlock]
theorem kK{t E:TypeId}{key:Value}{kl:Lit}(h:w.ownsGroups P k base e q b n D)(KL:WideMaps.KeyLaw P k)(ht:P.underlying t=some (.map k E))(hz:∀u:World,(zeroValue E).run P u=.ok (.slice none 0 0) u)(hn:n<maxLen)(f:keyOf P k key=some kl):
 ∃ (v:Value) (zs:List Int) (st:Nat) (o:Obj),(∀u:World,u.heap[b]? =w.heap[b]? ->(Instr.mapEntry t (.map (some b)) key).run P u=.ok (.tuple #[v,goInt st]) (setBlock u b o))/\D.atKey kl .nil=rowDatum q v zs/\w.ownsInts base e q v zs/\zs.length<=n/\b<w.heap.size/\
  ∀ (C:World) (B:Value) (zs':List Int),(setBlock w b o).grownBy C v.ownBlock->C.ownsInts base e q B zs'->zs'.length<=n+1->(B.ownBlock=v.ownBlock\/∃g,B.ownBlock=some g/\w.heap.size<=g)->
   ∃w3,(Instr.entryStore t (.map (some b)) (goInt st) B).run P C=.ok () w3/\w3.ownsGroups P k base e q b (n+1) (D.put kl (rowDatum q B zs'))/\C.grownBy w3 (some b):=by
 have K:=Keyed.of_law KL;obtain⟨v,zs,m,a6,R,ag,U⟩:=h.at K ht (hz w) hn f;obtain⟨N,clock,L,F,hs,rfl,aj,ah,ai⟩:=h;have s:b<w.heap.size:=(qW.1 L).1;have X:∀x∈N.toList,∃l,keyOf P k x.key=some l:=λx hx=>by
  obtain⟨y,hy⟩:=F.reads x hx;exact⟨_,rd_key hy⟩
 obtain⟨v0,st,G,d,V,T,ad⟩:=entry_then_store KL ht hz L F f;have a0:∀u:World,u.heap[b]? =some (.map N clock)->(Instr.mapEntry t (.map (some b)) key).run P u=.ok (.tuple #[v0,goInt st]) (setBlock u b (.map G d)):=by
  obtain⟨r,o,p⟩:=Hg (clock:=clock) (b:=b) K ht hz F.stamped.2.2 X f;have O:=p w L;rw[V] at O;injection O with A e2
  rw[eu s e2,A];exact p
 -- the entry's value is what a look-up gives
 obtain rfl:v0=v:=by
  rcases dE K f F.stamped.2.2 X with⟨O,h2⟩|⟨j,e0,O,h2,h3⟩
  · have hr:(Instr.lookup t (.map (some b)) key false).run P w=.ok (.slice none 0 0) w:=by
     simp[Instr.lookup,run_underlying ht,MapKept.run_getObj_map L,K.check w _ f,O,hz,Result.andThen]
    rw[hr] at m;injection m with hv _
    rcases T with⟨e0,q1,q2,_⟩|⟨_,q⟩
    · exact absurd q2 (h2 e0 q1)
    · rw[q,hv]
  · have hr:(Instr.lookup t (.map (some b)) key false).run P w=.ok e0.val w:=by
     simp[Instr.lookup,run_underlying ht,MapKept.run_getObj_map L,K.check w _ f,O,hz,Result.andThen]
    rw[hr] at m;injection m with hv _
    rcases T with⟨A,q1,q2,q3⟩|⟨q,_⟩
    · obtain⟨j',W⟩:=Cx.1 q1
      have r1:(N.toList.map (·.key))[j]? =some key:=(by rw[Am,h2];simp[h3]);have r2:(N.toList.map (·.key))[j']? =some key:=(by rw[Am,W];simp[q2]);obtain rfl:=ky F.stamped.2.2 r1 r2;rw[h2] at W;cases W;rw[q3,hv]
    · exact absurd h3 (q e0 (BP h2))
 refine⟨v0,zs,st,.map G d,λu hu=>a0 u (hu.trans L),a6,R,ag,s,λC B zs' hg J ab a1=> ?_⟩;have a7:(setBlock w b (.map G d)).heap[b]? =some (.map G d):=heap_setBlock_same L _;have af:v0.ownBlock≠some b:=λA=>by have:=(R.1.lt b A).1;omega
 have a3:B.ownBlock≠some b:=λA=>by have:=(J.1.lt b A).1;omega
 have z:C.heap[b]? =some (.map G d):=(hg.block b (by rw[ae];exact s) (λA=>af A.symm)).trans a7;obtain⟨a5,M,Q,Z⟩:=ad C B z;have a2:∀u:World,u.heap[b]? =some (.map N clock)->(Instr.mapUpdate t (.map (some b)) key B).run P u=.ok () (setBlock u b (.map a5 M)):=by
  obtain⟨o,p⟩:=Fj (clock:=clock) (b:=b) K ht F.stamped.2.2 X f B;have O:=p w L;rw[Z] at O;injection O with _ e2
  rw[eu s e2];exact p
 -- the world as if the entry had not been made
 have aa:w.grownBy (setBlock C b (.map N clock)) v0.ownBlock:=by
  refine⟨hg.os,hg.tape,hg.output,?_,λi hi I=> ?_⟩
  · rw[ae];have:=hg.size;rw[ae] at this;exact this
  · by_cases c:i=b
    · subst c
      rw[heap_setBlock_same z,L]
    · rw[heap_setBlock_other z _ c,hg.block i (by rw[ae];exact hi) I,heap_setBlock_other L _ c]
 have a8:C.grownBy (setBlock C b (.map N clock)) (some b):=⟨rfl,rfl,rfl,by rw[ae];exact qR,λi hi I=>heap_setBlock_other z _ (λA=>I (by rw[A]))⟩;have ac:(setBlock C b (.map N clock)).ownsInts base e q B zs':=J.kept a8 (.inr a3);obtain⟨w3,S,a9,a4⟩:=U _ B zs' aa ac ab a1;have Y:=a2 (setBlock C b (.map N clock)) (heap_setBlock_same z _);rw[Y,gu] at S;injection S with _ hw3
 refine⟨w3,?_,a9,?_⟩
 · rw[Q,hw3]
 · rw[<-hw3]
   exact⟨rfl,rfl,rfl,by rw[ae];exact qR,λi hi I=>heap_setBlock_other z _ (λA=>I (by rw[A]))⟩
theorem mH{t E:TypeId}{d:Value}{G:Lit}(h:w.ownsGroups P k base e q b n D)(K:Keyed P k)(s:P.underlying t=some (.map k E))(z:∀u:World,(zeroValue E).run P u=.ok (.slice none 0 0) u)(N:n<maxLen)(c:keyOf P k d=some G):
 ∃ (v:Value) (m:List Int),(∀u:World,u.heap[b]? =w.heap[b]? ->(Instr.lookup t (.map (some b)) d false).run P u=.ok v u)/\D.atKey G .nil=rowDatum q v m/\w.ownsInts base e q v m/\m.length<=n:=by
 obtain⟨v,m,a,p,i,A,r⟩:=h.at K s (z w) N c;obtain⟨B,clock,f,F,hs,rfl,M,C,L⟩:=h;refine⟨v,m,λu O=> ?_,p,i,A⟩;have g:=O.trans f;rcases dE K c F.stamped.2.2 (λx Q=>by
  obtain⟨y,R⟩:=F.reads x Q;exact⟨_,rd_key R⟩) with⟨o,J⟩|⟨j,I,o,J,S⟩
 · have l:∀u:World,u.heap[b]? =some (.map B clock)->(Instr.lookup t (.map (some b)) d false).run P u=.ok (.slice none 0 0) u:=λu f=>by
    simp[Instr.lookup,run_underlying s,MapKept.run_getObj_map f,K.check u _ c,o,z,Result.andThen]
   rw[l w f] at a;injection a with hv _
   rw[l u g,hv]
 · have l:∀u:World,u.heap[b]? =some (.map B clock)->(Instr.lookup t (.map (some b)) d false).run P u=.ok I.val u:=λu f=>by
    simp[Instr.lookup,run_underlying s,MapKept.run_getObj_map f,K.check u _ c,o,z,Result.andThen]
   rw[l w f] at a;injection a with hv _
   rw[l u g,hv]
end
end V.Px
namespace V.Px
open Go Go.RowKit M
open Go.ChangeShapes (lits)
theorem laidAll:laidOutB prog=true:=by kernel_rfl
theorem rowWide:(match prog.underlying 348 with|some (.array _ _)|some (.struct _)=>true|_=>false)=true:=by kernel_rfl
theorem tg:WideMaps.KeyLaw prog 348 :=deep_law_laid laidAll (m:=2) (by omega) (Cv (by kernel_rfl)) (by kernel_rfl) rowWide
theorem rowLaw:Maps.Keyed prog 348 :=Maps.Keyed.of_law tg
def rkey(a b c:Nat):Value:=.agg #[.int .u8 a,.int .u8 b,.int .u8 c]
def rk(a b c:Nat):Lit:=.string (keyBytes [.int .u8 a,.int .u8 b,.int .u8 c])
theorem rowTy: prog.keyType 348 =true:=by kernel_rfl
theorem rowCells: prog.cellsOf 348 =3:=by kernel_rfl
theorem Fs: prog.cellsOf 5 =1:=by kernel_rfl
theorem tySize:∃d,prog.types.size=d+1:=⟨prog.types.size - 1,by have:(0:Nat)< prog.types.size:=Cv (by kernel_rfl);omega⟩
theorem KR{a:Nat}(h:a<=255):(Lit.int .u8 (a:Int)).wf=true:=by simp[Lit.wf,IntKind.min,IntKind.max,IntKind.signed,IntKind.bits];omega
theorem keyLits_row(a b c:Nat)(h:a<=255)(i:b<=255)(j:c<=255): prog.keyLits (prog.types.size+1) 348 [.int .u8 a,.int .u8 b,.int .u8 c]=some [.int .u8 a,.int .u8 b,.int .u8 c]:=by
 obtain⟨d,l⟩:=tySize;have f:∀x:Nat,x<=255-> prog.keyLits (d+1) 5 [.int .u8 (x:Int)]=some [.int .u8 (x:Int)]:=λx m=>by
  rw[Program.keyLits.eq_def];simp only[underlying5];simp[KR m]
 rw[l,Program.keyLits.eq_def];simp only[underlying348];rw[A7 (by rw[rowCells];rfl)];have g:(List.range 3)=[0,1,2]:=rfl;rw[g];simp[Fs,f a h,f b i,f c j]
theorem rk_some{a b c:Nat}(d:a<=255)(f:b<=255)(g:c<=255):keyOf prog 348 (rkey a b c)=some (rk a b c):=by
 have hf:(rkey a b c).formed prog 348 =true:=(by simp[rkey,Value.formed,underlying348,rowCells]);have h:=keyLits_row a b c d f g;unfold keyOf;simp only[underlying348];rw[A7 (by rw[rowTy,hf];rfl)];show(prog.keyLits (prog.types.size+1) 348 [.int .u8 a,.int .u8 b,.int .u8 c]).map _=_
 rw[h];rfl
theorem rkey_inj{a b c a' b' c':Nat}(h:rkey a b c=rkey a' b' c'):a=a'/\b=b'/\c=c':=by
 unfold rkey at h;injection h with h
 simp at h;omega
theorem rk_inj{a b c a' b' c':Nat}(i:a<=255)(j:b<=255)(l:c<=255)(d:a'<=255)(f:b'<=255)(g:c'<=255)(h:rk a b c=rk a' b' c'):a=a'/\b=b'/\c=c':=
 rkey_inj (rowLaw.inj (rk_some i j l) (by rw[h];exact rk_some d f g))
theorem rk_key(a b c:Nat):WideAt.IsKeyLit (rk a b c):=trivial
def yQ(l:List Nat):List Int:=l.map λx:Nat=>(x:Int)
theorem my(l:List Nat):(yQ l).length=l.length:=by simp[yQ]
theorem uI(l:List Nat)(x:Nat):yQ (l++[x])=yQ l++[(x:Int)]:=by simp[yQ]
theorem yE{q:IntKind}{l l':List Int}(h:(lits q l:List (DataW Value))=lits q l'):l=l':=by
 unfold lits at h;exact(List.map_inj_right (λa b c=>by injection c with e;injection e)).1 h
structure Dic(D:DataW Value)(G:Nat->Nat->Nat->List Nat):Prop where
 isMap:Maps.IsMap D
 yes:∀a b c,a<=255->b<=255->c<=255->D.atKey (rk a b c) .nil=if G a b c=[] then .nil else .slice (lits .i64 (yQ (G a b c))) []
section
variable {D:DataW Value} {G G':Nat->Nat->Nat->List Nat}
theorem Dic.empty:Dic (.map []) (λ_ _ _=> []):=⟨Maps.isMap_empty,λa b c _ _ _=>by
 rw[A7 rfl];rw[Maps.atKey_of_not_has (show Maps.has (.map []) (rk a b c)=false by simp[Maps.has])]⟩
theorem Dic.congr(h:Dic D G)(e:∀a b c,a<=255->b<=255->c<=255->G a b c=G' a b c):Dic D G':=⟨h.isMap,λa b c d f g=>by rw[<-e a b c d f g];exact h.yes a b c d f g⟩
theorem Dic.put(h:Dic D G){a b c:Nat}(j:a<=255)(m:b<=255)(o:c<=255)(l:List Nat)(p:l≠[]):Dic (D.put (rk a b c) (.slice (lits .i64 (yQ l)) [])) (λa' b' d=>if a'=a/\b'=b/\d=c then l else G a' b' d):=by
 refine⟨h.isMap.put _ _,λa' b' d f g i=> ?_⟩;by_cases q:a'=a/\b'=b/\d=c
 · rw[A7 q,A0 p]
   obtain⟨rfl,rfl,rfl⟩:=q;exact Maps.atKey_put_same h.isMap (rk_key _ _ _) _ _
 · rw[A0 q,Maps.atKey_put_other (λk=>q (rk_inj f g i j m o k))]
   exact h.yes a' b' d f g i
theorem Dic.owned(h:Dic D G){a b c:Nat}(j:a<=255)(l:b<=255)(m:c<=255){w:World}{base:Nat}{e:TypeId}{v:Value}{f:List Int}(d:D.atKey (rk a b c) .nil=rowDatum .i64 v f)(g:w.ownsInts base e .i64 v f):f=yQ (G a b c):=by
 rw[h.yes a b c j l m] at d;by_cases q:G a b c=[]
 · rw[A7 q] at d
   rcases g.datum (H:=Value) with⟨_,h2⟩|h2
   · rw[h2,q];rfl
   · rw[h2] at d;cases d
 · rw[A0 q] at d
   rcases g.datum (H:=Value) with⟨i,_⟩|h2
   · rw[i] at d;cases d
   · rw[h2] at d
     injection d with d
     exact(yE d).symm
end
def lst(L:List Nat):Int:=match L.getLast? with|some x=>(x:Int)|none=> -1
theorem Gy:lst []= -1:=rfl
structure Fd(w:World)(B F:Nat)(s:ByteArray)(L:List Nat)(la:Int):Prop where
 c0:w.cell? ⟨F,0,none⟩=some (.string s)
 c1:w.cell? ⟨F,1,none⟩=some (.int .i64 la)
 fz:w.frozen? ⟨F,1,none⟩=false
 own:∃b base D,w.cell? ⟨F,2,none⟩=some (.map (some b))/\w.ownsGroups prog 348 base 3 .i64 b L.length D/\Dic D (grp s L)/\F<base/\base<=w.heap.size/\F≠b/\B<=b
 base:B<=F
 rise:L.Pairwise (· < ·)
 most:∀p,p∈L->p<s.size
 len:s.size<=1048576
section
variable {w w':World} {B F:Nat} {s:ByteArray} {L:List Nat} {la:Int}
theorem mX(h:Below w.heap.size w w'):w.grownBy w' none:=⟨h.os,h.tape,h.output,h.size,λk a _=>h.block k a⟩
theorem Fd.lt(h:Fd w B F s L la):F<w.heap.size:=qB h.c0
theorem Fd.below(h:Fd w B F s L la)(a:Below w.heap.size w w'):Fd w' B F s L la:=by
 obtain⟨b,base,D,d,f,g,i,j,l⟩:=h.own;have c:=λo=>a.cell (p:=⟨F,o,none⟩) h.lt
 refine⟨(c 0).trans h.c0,(c 1).trans h.c1,(a.frozen (p:=⟨F,1,none⟩) h.lt).trans h.fz,⟨b,base,D,(c 2).trans d,?_,g,i,qK j a.size,l⟩,h.base,h.rise,h.most,h.len⟩;exact f.kept (mX a) (by simp) (λm clock _ x _=>by
  cases x.val.ownBlock<;>simp)
theorem Fd.count(h:Fd w B F s L la):L.length<=s.size:=by
 -- rising places below a bound are no more than it
 have:∀ (l:List Nat) (n:Nat),l.Pairwise (· < ·)->(∀p,p∈l->p<n)->l.length<=n:=by
  intro l
  induction l with
  |nil=>intro n _ _;exact qZ
  |cons x r ih=>
   intro n d c;obtain⟨m,f⟩:=CQ.1 d;have:=ih n f (λp q=>c p (by simp[q]));have o:∀ (l:List Nat) (a n:Nat),l.Pairwise (· < ·)->(∀p,p∈l->a<p/\p<n)->l.length+a<n\/l=[]:=by
    intro l
    induction l with
    |nil=>intro a n _ _;exact .inr rfl
    |cons y t ih2=>
     intro a n d c;obtain⟨i,j⟩:=CQ.1 d;have u:=c y (by simp);rcases ih2 y n j (λp q=>⟨i p q,(c p (by simp[q])).2⟩) with g|g
     · refine .inl ?_;simp only[qC];omega
     · subst g;refine .inl ?_;simp only[qC,AB];omega
   have v:=c x (by simp);rcases o r x n f (λp q=>⟨m p q,c p (by simp[q])⟩) with g|g
   · simp only[qC];omega
   · subst g;simp only[qC,AB];omega
 exact this L _ h.rise h.most
end
theorem cD(p m:Nat)(w:World)(a:w.cell? ⟨p,2,none⟩=some (.map (some m))):
 Calls prog 263 #[.pointer (some ⟨p,0,none⟩)] w λe w'=>e=.returned (.bool true)/\w=w':=by
 have c:∀ (w:World) (r:Option Nat),(binOp .neq 276 (.map r) (.map none)).run prog w=.ok (.bool (!r.isNone)) w:=λw r=>run_neq_map_nil w _ _ _ r underlying276
 go_enter func263,ntmps263;go_wp2;go_ret;exact⟨rfl,rfl⟩
theorem Fd.made{X:World}{F b:Nat}{s:ByteArray}(hF:X.heap[F]? =some (.cells #[Value.string s,Value.int IntKind.i64 (-1),Value.map (some b)] 278 (0,0)))(hb:X.heap[b]? =some (.map #[] 0))(d:b<F)(h2:F+1<=X.heap.size)(hs:s.size<=1048576){B:Nat}(a:B<=b):Fd X B F s [] (lst []):=
 {c0:=by simp[World.cell?,hF],c1:=by simp[World.cell?,hF,Gy],fz:=by simp[World.frozen?,hF],
  own:=⟨b,F+1,.map [],by simp[World.cell?,hF],⟨#[],0,hb,⟨by simp,MapKept.stamped_empty 0,by simp⟩,qR,rfl,by omega,by simp,by simp⟩,Dic.empty,by omega,h2,by omega,a⟩,base:=by omega,
  rise:=List.Pairwise.nil,most:=(λp c=>by cases c),len:=hs}
theorem new_any(s:ByteArray)(w:World)(hs:s.size<=1048576):
 Calls prog 155 #[.string s] w λe w'=> ∃F,e=.returned (.pointer (some ⟨F,0,none⟩))/\w.heap.size<=F/\Fd w' w.heap.size F s [] (-1)/\Below w.heap.size w w':=by
 have g:= @run_makeMap prog;go_enter func155,ntmps155;go_wp2;go_ret;have a:(w.alloc (Obj.map #[] 0)).heap[w.heap.size]? =some (.map #[] 0):=heap_alloc_new w _
 have d:((w.alloc (Obj.map #[] 0)).alloc (Obj.cells #[Value.string s,Value.int IntKind.i64 (-1),Value.map (some w.heap.size)] 278)).heap[w.heap.size]? =some (.map #[] 0):=
  (Below.heap_alloc (w.alloc (Obj.map #[] 0)) _ w.heap.size (by simp)).trans a
 have c:((w.alloc (Obj.map #[] 0)).alloc (Obj.cells #[Value.string s,Value.int IntKind.i64 (-1),Value.map (some w.heap.size)] 278)).heap[w.heap.size+1]? =some (.cells #[Value.string s,Value.int IntKind.i64 (-1),Value.map (some w.heap.size)] 278 (0,0)):=by
  have:=heap_alloc_new (w.alloc (Obj.map #[] 0)) (.cells #[Value.string s,Value.int IntKind.i64 (-1),Value.map (some w.heap.size)] 278)
  simpa using this
 exact⟨w.heap.size+1,rfl,by omega,Fd.made c d (by omega) (by simp) hs qR,(qL).alloc (by simp) _⟩
theorem yI{B F:Nat}{s:ByteArray}{L:List Nat}{la:Int}{w:World}(H:Fd w B F s L la):
 Calls prog 226 #[.pointer (some ⟨F,0,none⟩)] w λe w'=>e=.returned (.int .i64 la)/\w=w':=by
 have d:=H.c1;obtain⟨b,base,D,c,_⟩:=H.own;have a:=qH (cD F b w c);go_enter func226,ntmps226;go_wp2_with (go_at_call 263;refine a.o.mono ?_;rintro e w' ⟨rfl,rfl⟩);go_ret;exact⟨rfl,rfl⟩
section
variable {B F:Nat} {s:ByteArray} {L:List Nat} {la:Int} {w:World}
theorem jT(H:Fd w B F s L la)(x:Int)(g:x<0):
 Calls prog 264 #[.pointer (some ⟨F,0,none⟩),.int .i64 x] w λe w'=>e=.returned (.tuple #[.agg #[.int .u8 0,.int .u8 0,.int .u8 0],.bool false])/\Below w.heap.size w w':=by
 obtain⟨b,base,D,c,_⟩:=H.own;have a:=(((Below.refl w.heap.size w).alloc qR (.cells #[.int .u8 0,.int .u8 0,.int .u8 0] 348)).cell (qB c)).trans c;have d:=qH (cD F b _ a);clear c a;go_enter func264,ntmps264;go_wp2_with (go_at_call 263;refine d.o.mono ?_;rintro e w' ⟨rfl,rfl⟩);exact bodyPost_ret (v:=.tuple #[.agg #[.int .u8 0,.int .u8 0,.int .u8 0],.bool false]) (by simp[results,results264,go_sem]) rfl ⟨rfl,qL⟩
theorem gR(H:Fd w B F s L la)(x:Int)(m:(s.size:Int) - 3<x):
 Calls prog 264 #[.pointer (some ⟨F,0,none⟩),.int .i64 x] w λe w'=>e=.returned (.tuple #[.agg #[.int .u8 0,.int .u8 0,.int .u8 0],.bool false])/\Below w.heap.size w w':=by
 by_cases c:x<0
 · exact jT H x c
 have i:=H.c0;have l:=H.len;obtain⟨b,base,D,d,_⟩:=H.own;have a:=(((Below.refl w.heap.size w).alloc qR (.cells #[.int .u8 0,.int .u8 0,.int .u8 0] 348)).cell (qB d)).trans d;have g:=qH (cD F b _ a);clear d a;have j:=H.lt;have h:0<=x:=(by omega);clear c;go_enter func264,ntmps264;go_wp2_with (go_at_call 263;refine g.o.mono ?_;rintro e w' ⟨rfl,rfl⟩);exact bodyPost_ret (v:=.tuple #[.agg #[.int .u8 0,.int .u8 0,.int .u8 0],.bool false]) (by simp[results,results264,go_sem]) rfl ⟨rfl,qL⟩
theorem three(s:ByteArray)(k:Nat)(h:k+3<=s.size):
 Lib.byteCells ((s.extract k s.size).data.toList.take 3)++[Value.int .u8 0,.int .u8 0,.int .u8 0].drop (0+3)=[.int .u8 (byt s k),.int .u8 (byt s (k+1)),.int .u8 (byt s (k+2))]:=by
 have a:(s.extract k s.size).data.toList=s.data.toList.drop k:=by
  rw[DD,DE,DF,Aj];rw[AF];simp
 have g:s.data.toList.length=s.size:=(by simp);rw[a];unfold byt;generalize s.data.toList=l at g;have d:(l.drop k).take 3=[l.getD k 0,l.getD (k+1) 0,l.getD (k+2) 0]:=by
  apply D8
  intro i;by_cases c:i<3
  · rw[AD,A7 c,Bm]
    have f:k+i<l.length:=(by omega);have:i=0\/i=1\/i=2:=(by omega);rcases this with rfl|rfl|rfl<;>simp[List.getD,qE f]
    · simp[qE (show k<l.length by omega)]
  · rw[AD,A0 c,BW (by simp;omega)]
 rw[d];simp[Lib.byteCells]
structure Thr(w w2:World)(x0 x1 x2:Int):Prop where
 d0:w2.cell? ⟨w.heap.size+1,0,none⟩=some (.int .u8 x0)
 d1:w2.cell? ⟨w.heap.size+1,1,none⟩=some (.int .u8 x1)
 d2:w2.cell? ⟨w.heap.size+1,2,none⟩=some (.int .u8 x2)
 o:w2.heap[w.heap.size]? =some (.cells #[.int .u8 0,.int .u8 0,.int .u8 0] 348 (0,0))
 kept:Kept NoB w w2
theorem qd(w:World)(q:Nat)(s:ByteArray)(p:q+3<=s.size):
 ∃h,(Builtin.copy_ #[26,9] 3 #[.slice (some ⟨w.heap.size+1,0,none⟩) 3 3,.string (s.extract q s.size)]).run prog
  ((w.alloc (.cells #[.int .u8 0,.int .u8 0,.int .u8 0] 348)).alloc (.cells #[.int .u8 0,.int .u8 0,.int .u8 0] 348)).drew=.ok (goInt 3) h/\
  Thr w h (byt s q) (byt s (q+1)) (byt s (q+2)):=by
 have l:=three s q p;have o:(3:Nat)=Nat.min (s.extract q s.size).size 3:=by
  have:(s.extract q s.size).size=s.size - q:=(by simp);rw[this];exact(Bw (by omega)).symm
 obtain⟨W,a⟩:∃W,W=((w.alloc (.cells #[.int .u8 0,.int .u8 0,.int .u8 0] 348)).alloc (.cells #[.int .u8 0,.int .u8 0,.int .u8 0] 348)).drew:=⟨_,rfl⟩
 have f:(w.alloc (.cells #[.int .u8 0,.int .u8 0,.int .u8 0] 348)).heap.size=w.heap.size+1:=(by simp);have i:W.heap[w.heap.size+1]? =some (.cells #[.int .u8 0,.int .u8 0,.int .u8 0] 348 (0,0)):=by
  rw[a,<-f];exact heap_alloc_new _ _
 have d:W.heap[w.heap.size]? =some (.cells #[.int .u8 0,.int .u8 0,.int .u8 0] 348 (0,0)):=by
  rw[a];refine(Below.heap_alloc (w.alloc (.cells #[.int .u8 0,.int .u8 0,.int .u8 0] 348)) _ w.heap.size (by omega)).trans ?_
  exact heap_alloc_new _ _
 have m:Kept NoB w W:=(by rw[a];exact(((Kept.refl NoB w).alloc _).alloc _).drew);rw[<-a];clear a
 have g:=aD (P:= prog) W 26 9 3 5 (w.heap.size+1) 0 3 3 3 (s.extract q s.size) _ 348 underlying26 (by kernel_rfl) i o (by
  show 0+3<=3;omega)
 rw[show(#[Value.int .u8 0,.int .u8 0,.int .u8 0]:Array Value).toList=[Value.int .u8 0,.int .u8 0,.int .u8 0] from rfl,BX,Ap,l] at g;refine⟨_,g,?_⟩;have c:=λj=>cell_setRow_same W (w.heap.size+1) j _ ([Value.int .u8 (byt s q),Value.int .u8 (byt s (q+1)),Value.int .u8 (byt s (q+2))].toArray) _ _ i
 exact⟨c 0,c 1,c 2,(setRow_other _ _ _ _ (by omega)).trans d,m.setRow _ (.inr (by omega)) _⟩
theorem rset_eq{w:World}{a:Addr}{u v:Value}(h:w.cell? a=some u):(w.setCell a v).cell? a=some v:=World.cell?_setCell_same' w a v (by rw[h];rfl)
theorem rset_ne{w:World}{p i j:Nat}{v:Value}(h:i≠j):(w.setCell ⟨p,i,none⟩ v).cell? ⟨p,j,none⟩=w.cell? ⟨p,j,none⟩:=World.cell?_setCell_other w _ _ _ (λe=>h (by injection e))
theorem fk(H:Fd w B F s L la)(k:Nat)(R:k+3<=s.size):
 Calls prog 264 #[.pointer (some ⟨F,0,none⟩),.int .i64 k] w λe w'=>e=.returned (.tuple #[rkey (byt s k) (byt s (k+1)) (byt s (k+2)),.bool true])/\Below w.heap.size w w':=by
 have O:=H.c0;have hl:=H.len;obtain⟨b,base,D,l,_⟩:=H.own;have g:=(((Below.refl w.heap.size w).alloc qR (.cells #[.int .u8 0,.int .u8 0,.int .u8 0] 348)).cell (qB l)).trans l;have C:=qH (cD F b _ g);obtain⟨c,r,m⟩:=qd w k s R;obtain⟨d,u⟩:∃x,byt s k=x:=⟨_,rfl⟩
 obtain⟨h,y⟩:∃x,byt s (k+1)=x:=⟨_,rfl⟩
 obtain⟨i,z⟩:∃x,byt s (k+2)=x:=⟨_,rfl⟩
 rw[u,y,z] at m ⊢;clear u y z;obtain⟨p,a⟩:=qh2 r m;have hF:=H.lt;have T:¬((s.size:Int) - 3<(k:Int)):=(by omega);have U:decide ((s.size:Int) - 3<(k:Int))=false:=qF T;have S:k<=s.size:=(by omega);clear l g r m;go_enter func264,ntmps264;go_wp2_with (go_at_call 263;refine C.o.mono ?_;rintro e w' ⟨rfl,rfl⟩)
 go_region_law (refine cg rfl _ _ _ _ rfl _ _ rfl rfl p.o ?_)
 all_goals
  have V:=a.o.d0;have W:=a.o.d1;have X:=a.o.d2;have E:c.cell? ⟨w.heap.size,0,none⟩=some (.int .u8 0):=(by have:=a.o.o;simp[World.cell?,this]);have Y:c.frozen? ⟨w.heap.size,0,none⟩=false:=(by have:=a.o.o;simp[World.frozen?,this]);have I:c.cell? ⟨w.heap.size,1,none⟩=some (.int .u8 0):=(by have:=a.o.o;simp[World.cell?,this]);have Z:c.frozen? ⟨w.heap.size,1,none⟩=false:=(by have:=a.o.o;simp[World.frozen?,this]);have J:c.cell? ⟨w.heap.size,2,none⟩=some (.int .u8 0):=(by have:=a.o.o;simp[World.cell?,this]);have f2:c.frozen? ⟨w.heap.size,2,none⟩=false:=(by have:=a.o.o;simp[World.frozen?,this]);clear O;have A:=qH a.o.kept;clear a p;go_wp2_with fail;have K:(c.setCell ⟨w.heap.size,0,none⟩ (.int .u8 d)).cell? ⟨w.heap.size,0,none⟩=some (.int .u8 d):=rset_eq E;have M:((c.setCell ⟨w.heap.size,0,none⟩ (.int .u8 d)).setCell ⟨w.heap.size,1,none⟩ (.int .u8 h)).cell? ⟨w.heap.size,1,none⟩=some (.int .u8 h):=rset_eq ((rset_ne (by decide)).trans I);have N:(((c.setCell ⟨w.heap.size,0,none⟩ (.int .u8 d)).setCell ⟨w.heap.size,1,none⟩ (.int .u8 h)).setCell ⟨w.heap.size,2,none⟩ (.int .u8 i)).cell? ⟨w.heap.size,2,none⟩=some (.int .u8 i):=rset_eq ((rset_ne (by decide)).trans ((rset_ne (by decide)).trans J));refine bodyPost_ret (v:=.tuple #[rkey d h i,.bool true]) (by simp[results,rkey,results264,go_sem,K,M,N]) rfl ⟨rfl,?_⟩;exact((((A.o.setCell ⟨w.heap.size,0,none⟩ (.inr qR) (.int .u8 d)).setCell ⟨w.heap.size,1,none⟩ (.inr qR) (.int .u8 h)).setCell ⟨w.heap.size,2,none⟩ (.inr qR) (.int .u8 i))).below qR (λj Q=>Q.elim)
end
end V.Px
namespace V.Px
open Go Go.RowKit M
open Go.ChangeShapes (lits)
open Go.ChangeMaps (setBlock heap_setBlock_same heap_setBlock_other)
section
variable {B F:Nat} {s:ByteArray} {L:List Nat} {la:Int} {w:World}
theorem mG{H:Type}{P:Program}{k:TypeId}{base:Nat}{e:TypeId}{q:IntKind}{b n m:Nat}{D:DataW H}(h:w.ownsGroups P k base e q b n D)(a:n<=m):w.ownsGroups P k base e q b m D:=by
 obtain⟨c,clock,d,f,g,i,j,l,o⟩:=h;exact⟨c,clock,d,f,qK g a,i,j,λx p t r=>qK (l x p t r) a,o⟩
theorem Fd.last(H:Fd w B F s L la)(x:Int):Fd (w.setCell ⟨F,1,none⟩ (.int .i64 x)) B F s L x/\Below B w (w.setCell ⟨F,1,none⟩ (.int .i64 x)):=by
 have m:Below B w (w.setCell ⟨F,1,none⟩ (.int .i64 x)):=(Below.refl B w).setCell (p:=⟨F,1,none⟩) H.base _;obtain⟨b,base,D,f,a,h,c,i,d,l⟩:=H.own;have o:w.grownBy (w.setCell ⟨F,1,none⟩ (.int .i64 x)) (some F):=⟨rfl,rfl,rfl,by simp[World.setCell],λk t g=>Below.heap_setCell _ _ _ _ (λe=>g (by rw[e]))⟩;refine⟨⟨(rset_ne (by decide)).trans H.c0,rset_eq H.c1,by rw[World.frozen?_setCell];exact H.fz,⟨b,base,D,(rset_ne (by decide)).trans f,?_,h,c,by simpa [World.setCell] using i,d,l⟩,H.base,H.rise,H.most,H.len⟩,m⟩;exact a.kept o (λe=>d (by injection e with e;exact e.symm)) (a.rowsAbove (λj r=>by cases r;exact c))
theorem jZ(H:Fd w B F s L la){k:Nat}(h:∀p,p∈L->p<k)(g:k<s.size):(L++[k]).Pairwise (· < ·)/\∀p,p∈L++[k]->p<s.size:=by
 refine⟨List.pairwise_append.2 ⟨H.rise,by simp,λa f c d=> ?_⟩,λp i=> ?_⟩
 · simp at d;subst d;exact h a f
 · rcases AH.1 i with q|q
   · exact H.most p q
   · simp at q;subst q;exact g
theorem Fd.short(H:Fd w B F s L la){k:Nat}(h:∀p,p∈L->p<k)(r:k<s.size)(j:¬k+3<=s.size):Fd w B F s (L++[k]) la:=by
 obtain⟨b,base,D,g,i,f,l,m,o⟩:=H.own;obtain⟨t,u⟩:=jZ H h r;refine⟨H.c0,H.c1,H.fz,⟨b,base,D,g,mG i (by simp),f.congr (λa c d _ _ _=> ?_),l,m,o⟩,H.base,t,u,H.len⟩;rw[oR,A0 (λe=>j (ju.1 e).1)]
theorem info_of{e:TypeId}{z:Value}{size bytes:Nat}(hi:(prog.info? e).map (λi=>(i.zero,i.size,i.bytes))=some (some z,size,bytes)):∃i,prog.info? e=some i/\i.zero=some z/\i.size=size/\i.bytes=bytes:=by
 cases a: prog.info? e with
 |none=>rw[a] at hi;cases hi
 |some i=>rw[a] at hi;simp at hi;exact⟨i,rfl,hi.1,hi.2.1,hi.2.2⟩
theorem GT:(prog.info? 3).map (λi=>(i.zero,i.size,i.bytes))=some (some (.int .i64 0),1,8):=by kernel_rfl
theorem zeroS(w:World):(zeroValue 104).run prog w=.ok (.slice none 0 0) w:=by kernel_rfl
theorem IK{o:Oper}{a:Act}{w:World}{K:Act->World->Prop}{Q:Exit->Act->World->Prop}{d:Option Tmp}(I:o.dst=d)(sl x:Operand)(J:o.op=.call {callee:=.builtin .append,args:= #[sl,x],argTypes:= #[104,104]})
 (base:Nat) (v:Value) (m:List Int) (hs:a.eval sl=v) (c:w.ownsInts base 3 .i64 v m) (g:Nat) (y:Int) (M:a.eval x=.slice (some ⟨g,0,none⟩) 1 1) (C:w.cell? ⟨g,0,none⟩=some (.int .i64 y)) (N:(Lit.int .i64 y).wf=true) (U:m.length<=1048576) (E:base<=w.heap.size)
 (h:∀l w',w'.ownsInts base 3 .i64 l (m++[y])->w.grownBy w' v.ownBlock->(l.ownBlock=v.ownBlock\/l.ownBlock=some w.heap.size)->K (a.put d l) w'):o.wp prog a w K Q:=by
 obtain⟨i,p,r,z,A⟩:=info_of GT
 obtain⟨l,w',O,R,S,_,T⟩:=run_append_own_at (P:= prog) w base 104 o.type 3 i _ 1 8 underlying104 p r z A rfl (by decide) v m.length (m.map (Value.int .i64)) c.1 ⟨g,0,none⟩ 1 1 [.int .i64 y] (by simp)
  (λj u f=>by
   match j,f with
   |0,f=>simp at f;subst f;simpa [Addr.add] using C) (by intro u f;simp at f;subst f;rfl) (by unfold maxLen;omega) (by omega) E
 unfold Oper.wp execOp;simp only[J,resolve,invoke,builtin,Sem.run_bind,Sem.run_pure,Result.andThen_ok,AV,Al,Av,hs,M,O];subst I;exact h l w' (c.appended R N) S T
theorem lC{P:Program}{o:Oper}{a:Act}{w w':World}{K:Act->World->Prop}{Q:Exit->Act->World->Prop}(d:Option Tmp)(i:o.dst=d)(t:TypeId)(m x:Operand)(l:o.op=Op.mapEntry t m x)(g f r:Value)(j:a.eval m=g)(p:a.eval x=f)
 (c:(Instr.mapEntry t g f).run P w=.ok r w') (h:K (a.put d r) w'):Oper.wp P o a w K Q:=by
 subst i;unfold Oper.wp;simp[execOp,l,j,p,c,Result.andThen];exact h
theorem iF{P:Program}{o:Oper}{a:Act}{w w':World}{K:Act->World->Prop}{Q:Exit->Act->World->Prop}(d:Option Tmp)(i:o.dst=d)(t:TypeId)(m x v:Operand)(l:o.op=Op.entryStore t m x v)(f g val:Value)(j:a.eval m=f)(r:a.eval x=g)(p:a.eval v=val)
 (c:(Instr.entryStore t f g val).run P w=.ok () w') (h:K (a.put d undef) w'):Oper.wp P o a w K Q:=by
 subst i;unfold Oper.wp;simp[execOp,l,j,r,p,c,Result.andThen];exact h
theorem cell_more{w:World}{a:Addr}{v:Value}(h:w.cell? a=some v)(o:Obj):(w.alloc o).cell? a=some v:=
 (World.cell?_of_block (w:=w) (Below.heap_alloc w o a.block (qB h))).trans h
theorem au{w w':World}{a:Addr}{v:Value}(h:w.cell? a=some v){row:Option Nat}(d:w.grownBy w' row)(c:row≠some a.block):w'.cell? a=some v:=
 (World.cell?_of_block (d.block a.block (qB h) (λe=>c e.symm))).trans h
end
def KT(F:Nat)(w w':World):Prop:=∀i cs T z,w.heap[i]? =some (.cells cs T z)->T≠ 3 ->i≠F->w'.heap[i]? =some (.cells cs T z)
theorem KT.trans{F:Nat}{w w' w2:World}(h:KT F w w')(c:KT F w' w2):KT F w w2:=λi cs T z q a b=>c i cs T z (h i cs T z q a b) a b
theorem KT.of_below{F:Nat}{w w':World}(h:Below w.heap.size w w'):KT F w w':=λi cs T z q _ _=>(h.block i (qW.1 q).1).trans q
theorem KT.setF(F:Nat)(w:World)(o:Nat)(v:Value):KT F w (w.setCell ⟨F,o,none⟩ v):=λi cs T z q _ a=>(Below.heap_setCell _ _ _ _ a).trans q
section
variable {B F:Nat} {s:ByteArray} {L:List Nat} {la:Int} {w:World}
theorem tA(H:Fd w B F s L la)(k:Nat)(I:k<s.size)(h:la<(k:Int))(r:∀p,p∈L->p<k)(z:¬k+3<=s.size):
 Calls prog 227 #[.pointer (some ⟨F,0,none⟩),.int .i64 k] w λe w'=>e=.returned (.int .i64 0)/\Fd w' B F s (L++[k]) k/\Below B w w'/\KT F w w':=by
 have J:=H.c0;have C:=H.c1;have E:=H.fz;have K:=H.lt;have A:=H.base;have a:B<=w.heap.size:=(by omega);obtain⟨b,base,D,m,_⟩:=H.own;have t:=qH (cD F b _ m);obtain⟨d,l⟩:=H.last k;have v:=qH (gR d k (by omega));have u:=qH (d.short r I z);have j:=qH l;have y:=qH (KT.setF F w 1 (.int .i64 k));clear H d l m r;go_enter func227,ntmps227;go_wp2_with fail;refine t.o.mono ?_;rintro e w' ⟨rfl,rfl⟩;go_wp2_with fail;refine v.o.mono ?_;rintro e M ⟨rfl,c⟩;have g:=qH (u.o.below c);have i:=qH (j.o.trans (c.mono (qK a j.o.size)));have x:=qH (y.o.trans (KT.of_below c));clear c;go_wp2_with fail;go_ret;exact⟨rfl,g.o.below (qL),i.o.alloc (qK a i.o.size) _,x.o.trans (KT.of_below (qL))⟩
theorem aQ(w:World){b:Nat}(o:Obj){i:Nat}(h:i≠b):(setBlock w b o).heap[i]? =w.heap[i]? :=by
 simp[setBlock,Ad,h,Ne.symm h]
theorem du(w:World){b:Nat}(o:Obj)(h:b<w.heap.size):(setBlock w b o).heap[b]? =some o:=by
 simp[setBlock,h]
theorem tB(H:Fd w B F s L la)(k:Nat)(hk:k<s.size)(hL:∀p,p∈L->p<k)(h3:k+3<=s.size):
 ∃ (b base:Nat) (v:Value) (Q:List Int) (st:Nat) (o:Obj),w.cell? ⟨F,2,none⟩=some (.map (some b))/\
  (∀u:World,u.heap[b]? =w.heap[b]? ->(Instr.mapEntry 276 (.map (some b)) (rkey (byt s k) (byt s (k+1)) (byt s (k+2)))).run prog u=.ok (.tuple #[v,goInt st]) (setBlock u b o))/\
  b<w.heap.size/\base<=w.heap.size/\F≠b/\F<base/\b<base/\w.ownsInts base 3 .i64 v Q/\Q.length<=1048576/\
  ∀ (N:World) (O:Value),(setBlock w b o).grownBy N v.ownBlock->N.ownsInts base 3 .i64 O (Q++[(k:Int)])->(O.ownBlock=v.ownBlock\/∃g,O.ownBlock=some g/\w.heap.size<=g)->
   ∃u3,(Instr.entryStore 276 (.map (some b)) (goInt st) O).run prog N=.ok () u3/\Fd u3 B F s (L++[k]) la/\Below B w u3/\N.grownBy u3 (some b)/\KT F w u3:=by
 obtain⟨b,base,D,h1,h2,hd,h4,h5,M,h7⟩:=H.own;have I:=cU s k;have J:=cU s (k+1);have K:=cU s (k+2);have hc:=H.count;have hl:=H.len;have hB:=H.base;have a4:b<base:=(by obtain⟨es,clock,_,_,_,_,q,_⟩:=h2;exact q);obtain⟨v,Q,st,o,V,a3,f,aa,U,C⟩:=kK h2 tg underlying276 zeroS (by unfold maxLen;omega) (rk_some I J K);have hz:=hd.owned I J K a3 f;have a1:v.ownBlock≠some F:=λA=>by have:=(f.1.lt F A).1;omega
 refine⟨b,base,v,Q,st,o,h1,V,U,h5,M,h4,a4,f,by omega,λN O y ho Z=> ?_⟩;obtain⟨u3,a0,W,l⟩:=C N O (Q++[(k:Int)]) y ho (by simp;omega) Z;have m:w.grownBy (setBlock w b o) (some b):=by
  refine⟨rfl,rfl,rfl,by rw[ae];exact qR,λi hi a6=> ?_⟩;obtain⟨es,clock,E,_⟩:=id h2;exact heap_setBlock_other E _ (λe=>a6 (by rw[e]))
 have h:∀i x,w.cell? ⟨F,i,none⟩=some x->u3.cell? ⟨F,i,none⟩=some x:=λi x q=>
  au (au (au q m (by simpa using λe=>M e.symm)) y a1) l (by simpa using λe=>M e.symm)
 have r:Below B w u3:=(((Below.refl B w).grown m (by omega) (λj Y=>by cases Y;exact h7)).grown y (by rw[ae];omega) (λj Y=>by have:=(f.1.lt j Y).1;omega)).grown l (by have:=y.size;rw[ae] at this;omega) (λj Y=>by cases Y;exact h7);have a2:KT F w u3:=λi cs T z q hT hF=>by
  have hi:=(qW.1 q).1;have X:i≠b:=λe=>by
   obtain⟨es,clock,E,_⟩:=id h2;rw[e,E] at q;cases q
  have a5:v.ownBlock≠some i:=λe=>by
   rcases f.1.2 with⟨hv,_⟩|⟨g,a7,a8,hv,_,hh,_⟩
   · rw[hv] at e;cases e
   · rw[hv] at e
     simp[Value.ownBlock] at e;subst e;rw[hh] at q;injection q with q
     injection q with _ q _
     exact hT q.symm
  have A:=m.block i hi (λe=>X (by injection e));have R:=y.block i (by rw[ae];exact hi) (λe=>a5 e.symm);have S:=l.block i (Ag (by rw[ae];exact hi) y.size) (λe=>X (by injection e));exact(S.trans (R.trans A)).trans q
 obtain⟨r1,r2⟩:=jZ H hL hk;refine⟨u3,a0,⟨h 0 _ H.c0,h 1 _ H.c1,?_,⟨b,base,_,h 2 _ h1,?_,(hd.put I J K (grp s L (byt s k) (byt s (k+1)) (byt s (k+2))++[k]) (by simp)).congr ?_,h4,qK h5 r.size,M,h7⟩,H.base,r1,r2,H.len⟩,r,l,a2⟩
 · have A:=m.block F H.lt (by simpa using M)
   have R:=y.block F (by rw[ae];exact H.lt) (λe=>a1 e.symm);have S:=l.block F (Ag (by rw[ae];exact H.lt) y.size) (by simpa using M);have:=World.frozen?_of_block (w:=w) (w':=u3) (a:=⟨F,1,none⟩) (S.trans (R.trans A));rw[this];exact H.fz
 · rw[qA,Bn,uI,<-hz]
   rw[ho.datum_pos (by simp)] at W;exact W
 · intro a c d ha a9 hdd
   rw[oR];by_cases q:a=byt s k/\c=byt s (k+1)/\d=byt s (k+2)
   · obtain⟨rfl,rfl,rfl⟩:=q
     rw[A7 ⟨rfl,rfl,rfl⟩,A7 (ju.2 ⟨h3,rfl,rfl,rfl⟩)]
   · rw[A0 q,A0 (λe=>q (by
      obtain⟨_,A,R,S⟩:=ju.1 e;exact⟨A.symm,R.symm,S.symm⟩))]
theorem xI(H:Fd w B F s L la)(k:Nat)(hk:k<s.size)(h:la<(k:Int))(hL:∀p,p∈L->p<k)(h3:k+3<=s.size):
 Calls prog 227 #[.pointer (some ⟨F,0,none⟩),.int .i64 k] w λe w'=>e=.returned (.int .i64 0)/\Fd w' B F s (L++[k]) k/\Below B w w'/\KT F w w':=by
 have h0:=H.c0;have aY:=H.c1;have hl:=H.len;have aZ:=H.fz;have hF:=H.lt;have aX:=H.base;have aP:B<=w.heap.size:=(by omega);obtain⟨b,base,D,h2,_⟩:=H.own;have HM:=qH (cD F b _ h2);obtain⟨HL,bL⟩:=H.last k;have HS:=qH (fk HL k h3);obtain⟨aN,aR,BL⟩:=qh3 HL hL bL;have KL:=qH (KT.setF F w 1 (.int .i64 k));have aT:=cU s k;have aU:=cU s (k+1);have aV:=cU s (k+2);obtain⟨N,q0⟩:∃x,byt s k=x:=⟨_,rfl⟩
 obtain⟨O,q1⟩:∃x,byt s (k+1)=x:=⟨_,rfl⟩
 obtain⟨R,q2⟩:∃x,byt s (k+2)=x:=⟨_,rfl⟩
 rw[q0,q1,q2] at HS;rw[q0] at aT;rw[q1] at aU;rw[q2] at aV;obtain⟨Q0,Q1,Q2⟩:=qh3 q0 q1 q2;clear H bL h2 q0 q1 q2 HL hL;go_enter func227,ntmps227;go_wp2_with fail;refine HM.o.mono ?_;rintro e w' ⟨rfl,rfl⟩;go_wp2_with fail;refine HS.o.mono ?_;rintro e m ⟨rfl,b2⟩;have H2:=qH (aN.o.below b2);have B2:=qH (BL.o.trans (b2.mono (qK aP BL.o.size)));have K2:=qH (KL.o.trans (KT.of_below b2));clear b2;obtain⟨b',C,v,zs,st,o,f1,I,f3,f4,f5,f6,aO,z,f8,E⟩:=tB H2.o k hk aR.o h3;rw[Q0.o,Q1.o,Q2.o] at I;obtain⟨FE,FB,FO⟩:=qh3 I E z;have a0:∀g,m.heap.size<=g->v.ownBlock≠some g:=λg hg e=>by have:=(z.1.lt g e).2;omega
 have W:∀g,g<C->v.ownBlock≠some g:=λg hg e=>by have:=(z.1.lt g e).1;omega
 obtain⟨HV,Y⟩:=qh2 a0 W;have y:∀i x,(#[Value.int .u8 N,.int .u8 O,.int .u8 R]:Array Value)[i]? =some x->(m.alloc (.cells #[.int .u8 N,.int .u8 O,.int .u8 R] 348)).drew.cell? ⟨m.heap.size,i,none⟩=some x:=λi x q=>by
  have hh:(m.alloc (.cells #[.int .u8 N,.int .u8 O,.int .u8 R] 348)).drew.heap[m.heap.size]? =some (.cells #[.int .u8 N,.int .u8 O,.int .u8 R] 348 (0,0)):=heap_alloc_new _ _;simp only[World.cell?,hh];exact q
 have s0:(m.alloc (.cells #[.int .u8 N,.int .u8 O,.int .u8 R] 348)).drew.cell? ⟨F,2,none⟩=some (.map (some b')):=cell_more f1 _;have s1:=y 0 _ rfl;have s2:=y 1 _ rfl;have s3:=y 2 _ rfl;clear f1 I E z a0 W y;unfold rkey;go_wp2_with fail;refine Code.wp_mono (Q:=λe a w'=>e=Exit.normal/\(∃v0 v1 v2 v3 v4 v5 v6 v7 v8 v9 a1 a2 a3 a4 a5 a6 a7 a8 a9 aa ab ac ad ag ah ai aj ak al am an ao ap aq av aw ax ay az aA aB aC aD aE aF aG aH aI aJ:Value,a=(⟨#[v0,v1,v2,v3,v4,v5,v6,v7,v8,v9,a1,a2,a3,a4,a5,a6,a7,a8,a9,aa,ab,ac,ad,ag,ah,ai,aj,ak,al,am,an,ao,ap,aq,av,aw,ax,ay,az,aA,aB,aC,aD,aE,aF,aG,aH,aI,aJ],[]⟩:Act))/\Fd w' B F s (L++[k]) k/\Below B m w'/\KT F m w') ?_ ?_
 rotate_left
 · refine aW (λu=>u.cell? ⟨F,2,none⟩=some (.map (some b'))/\u.cell? ⟨m.heap.size,0,none⟩=some (.int .u8 N)/\u.cell? ⟨m.heap.size,1,none⟩=some (.int .u8 O)/\u.cell? ⟨m.heap.size,2,none⟩=some (.int .u8 R)) ⟨s0,s1,s2,s3⟩ (λl=> ?_)
   clear s0 s1 s2 s3;refine af (i:=0) (d:=some 38) (v:= ?_) rfl rfl (by kernel_rfl) (by kernel_rfl) (by kernel_rfl) (λ_ _ _ h=>by cases h.1) (by rfl) (λw j=> ?_) l ?_;rotate_left;(focus ((try dsimp only at j);go_simp;(try with_reducible rfl)));(try simp only[Act.put,List.setIfInBounds_toArray,List.set_cons_zero,List.set_cons_succ]);refine af (i:=1) (d:=some 39) (v:= ?_) rfl rfl (by kernel_rfl) (by kernel_rfl) (by kernel_rfl) (λ_ _ _ h=>by cases h.1) (by rfl) (λw j=> ?_) l ?_;rotate_left;(focus ((try dsimp only at j);go_simp;(try with_reducible rfl)));(try simp only[Act.put,List.setIfInBounds_toArray,List.set_cons_zero,List.set_cons_succ]);refine af (i:=2) (d:=some 40) (v:= ?_) rfl rfl (by kernel_rfl) (by kernel_rfl) (by kernel_rfl) (λ_ _ _ h=>by cases h.1) (by rfl) (λw j=> ?_) l ?_;rotate_left;(focus ((try dsimp only at j);go_simp;(try with_reducible rfl)));(try simp only[Act.put,List.setIfInBounds_toArray,List.set_cons_zero,List.set_cons_succ]);refine af (i:=3) (d:=some 41) (v:= ?_) rfl rfl (by kernel_rfl) (by kernel_rfl) (by kernel_rfl) (λ_ _ _ h=>by cases h.1) (by rfl) (λw j=> ?_) l ?_;rotate_left;(focus ((try dsimp only at j);go_simp;(try with_reducible rfl)));(try simp only[Act.put,List.setIfInBounds_toArray,List.set_cons_zero,List.set_cons_succ]);refine af (i:=4) (d:=some 42) (v:= ?_) rfl rfl (by kernel_rfl) (by kernel_rfl) (by kernel_rfl) (λ_ _ _ h=>by cases h.1) (by rfl) (λw j=> ?_) l ?_;rotate_left;(focus ((try dsimp only at j);go_simp;(try with_reducible rfl)));(try simp only[Act.put,List.setIfInBounds_toArray,List.set_cons_zero,List.set_cons_succ]);refine af (i:=5) (d:=some 44) (v:= ?_) rfl rfl (by kernel_rfl) (by kernel_rfl) (by kernel_rfl) (λ_ _ _ h=>by cases h.1) (by rfl) (λw j=> ?_) l ?_;rotate_left;(focus ((try dsimp only at j);go_simp;(try with_reducible rfl)));(try simp only[Act.put,List.setIfInBounds_toArray,List.set_cons_zero,List.set_cons_succ]);refine ar (i:=6) (by kernel_rfl) rfl (λK J=> ?_);go_simp;refine J.out _ _ ⟨cell_more l.1 _,cell_more l.2.1 _,cell_more l.2.2.1 _,cell_more l.2.2.2 _⟩ (λl=> ?_);clear J K
   (try simp only[Act.put,List.setIfInBounds_toArray,List.set_cons_zero,List.set_cons_succ])
   obtain⟨u0,M⟩:∃u0,((m.alloc (.cells #[.int .u8 N,.int .u8 O,.int .u8 R] 348)).alloc (.cells #[.int .i64 k] 3)).drew=u0:=⟨_,rfl⟩
   have b0:u0.heap.size=m.heap.size+2:=(by rw[<-M];simp[World.drew]);have X:∀i,i<m.heap.size->u0.heap[i]? =m.heap[i]? :=λi hi=>by
    rw[<-M];exact(Below.heap_alloc (m.alloc (.cells #[.int .u8 N,.int .u8 O,.int .u8 R] 348)) _ i (by simp;omega)).trans (Below.heap_alloc m _ i hi)
   have aS:u0.cell? ⟨m.heap.size+1,0,none⟩=some (.int .i64 k):=by
    have hh:u0.heap[m.heap.size+1]? =some (.cells #[.int .i64 k] 3 (0,0)):=by
     rw[<-M];have:=heap_alloc_new (m.alloc (.cells #[.int .u8 N,.int .u8 O,.int .u8 R] 348)) (.cells #[.int .i64 k] 3)
     simpa [World.drew] using this
    simp[World.cell?,hh]
   have A:u0.os=m.os/\u0.tape=m.tape/\u0.output=m.output:=(by rw[<-M];exact⟨rfl,rfl,rfl⟩);have hE:=FE.o u0 (X b' f3);have r:∀ {a:Addr} {x:Value},u0.cell? a=some x->a.block≠b'->(setBlock u0 b' o).cell? a=some x:=λ{a x} q V=>by
    have:(setBlock u0 b' o).heap[a.block]? =u0.heap[a.block]? :=aQ u0 o V;exact(World.cell?_of_block this).trans q
   refine ar (i:=7) (by kernel_rfl) rfl (λK J=> ?_);rw[A7 (by rfl)];rw[M] at l ⊢;refine lC (some 46) rfl 276 _ _ rfl (.map (some b')) (rkey N O R) _ rfl rfl hE ?_
   refine J.out _ _ ⟨r l.1 f5,r l.2.1 (by simp;omega),r l.2.2.1 (by simp;omega),r l.2.2.2 (by simp;omega)⟩ (λl=> ?_);clear J K
   (try simp only[Act.put,List.setIfInBounds_toArray,List.set_cons_zero,List.set_cons_succ])
   refine af (i:=8) (d:=some 43) (v:= ?_) rfl rfl (by kernel_rfl) (by kernel_rfl) (by kernel_rfl) (λ_ _ _ h=>by cases h.1) (by rfl) (λw j=> ?_) l ?_;rotate_left;(focus ((try dsimp only at j);go_simp;(try with_reducible rfl)));(try simp only[Act.put,List.setIfInBounds_toArray,List.set_cons_zero,List.set_cons_succ]);refine af (i:=10) (d:=some 48) (v:= ?_) rfl rfl (by kernel_rfl) (by kernel_rfl) (by kernel_rfl) (λ_ _ _ h=>by cases h.1) (by rfl) (λw j=> ?_) l ?_;rotate_left;(focus ((try dsimp only at j);go_simp;(try with_reducible rfl)));(try simp only[Act.put,List.setIfInBounds_toArray,List.set_cons_zero,List.set_cons_succ]);have g1:m.grownBy (setBlock u0 b' o) (some b'):=⟨A.1,A.2.1,A.2.2,by rw[ae];omega,λi hi V=>(aQ u0 o (λe=>V (by rw[e]))).trans (X i hi)⟩
   have g0:(setBlock m b' o).grownBy (setBlock u0 b' o) v.ownBlock:=⟨A.1,A.2.1,A.2.2,by rw[ae,ae];omega,λi hi V=>by
    rw[ae] at hi;by_cases c:i=b'
    · subst c
      rw[du u0 o (by omega),du m o f3]
    · rw[aQ u0 o c,aQ m o c];exact X i hi⟩
   have hO:=FO.o.kept g1 (.inr (Y.o b' aO));refine ar (i:=9) (by kernel_rfl) rfl (λK J=> ?_);rw[A7 (by rfl)];refine IK (d:=some 47) rfl _ _ rfl C v zs rfl hO (m.heap.size+1) k rfl (r aS (by simp;omega)) (by simp[Lit.wf,IntKind.min,IntKind.max,IntKind.signed,IntKind.bits];omega) f8 (by rw[ae];omega) (λv' u2 o2 Z l2=> ?_);refine J.out _ _ ⟨au l.1 Z (Y.o F f6),au l.2.1 Z (HV.o _ qR),au l.2.2.1 Z (HV.o _ qR),au l.2.2.2 Z (HV.o _ qR)⟩ (λl=> ?_);clear J K
   (try simp only[Act.put,List.setIfInBounds_toArray,List.set_cons_zero,List.set_cons_succ])
   obtain⟨u3,hR,T,S,g3,U⟩:=FB.o u2 v' (g0.trans Z) o2 (l2.elim .inl (λe=> .inr ⟨_,e,by rw[ae];omega⟩));refine ar (i:=11) (by kernel_rfl) rfl (λK J=> ?_);rw[A7 (by rfl)];refine iF none rfl 276 _ _ _ rfl (.map (some b')) (goInt st) v' rfl rfl rfl hR ?_
   refine J.out _ _ ⟨au l.1 g3 (by simp;omega),au l.2.1 g3 (by simp;omega),au l.2.2.1 g3 (by simp;omega),au l.2.2.2 g3 (by simp;omega)⟩ (λl=> ?_);clear J K
   (try simp only[Act.put,List.setIfInBounds_toArray,List.set_cons_zero,List.set_cons_succ])
   refine wpAnyH_done (by kernel_rfl) ?_ _;exact⟨rfl,⟨_,_,_,_,_,_,_,_,_,_,_,_,_,_,_,_,_,_,_,_,_,_,_,_,_,_,_,_,_,_,_,_,_,_,_,_,_,_,_,_,_,_,_,_,_,_,_,_,_,rfl⟩,T,S,U⟩
 · rintro e a w3 ⟨rfl,⟨v0,v1,v2,v3,v4,v5,v6,v7,v8,v9,a1,a2,a3,a4,a5,a6,a7,a8,a9,aa,ab,ac,ad,ag,ah,ai,aj,ak,al,am,an,ao,ap,aq,av,aw,ax,ay,az,aA,aB,aC,aD,aE,aF,aG,aH,aI,aJ,rfl⟩,T,S,U⟩
   have aL:=qH T;have aK:=qH (B2.o.trans S);have aM:=qH (K2.o.trans U);clear T S U;go_wp2_with fail;go_ret;exact⟨rfl,aL.o,aK.o,aM.o⟩
theorem Jg(H:Fd w B F s L la)(k:Nat)(d:k<s.size)(h:la<(k:Int))(a:∀p,p∈L->p<k):
 Calls prog 227 #[.pointer (some ⟨F,0,none⟩),.int .i64 k] w λe w'=>e=.returned (.int .i64 0)/\Fd w' B F s (L++[k]) k/\Below B w w'/\KT F w w':=by
 by_cases c:k+3<=s.size
 · exact xI H k d h a c
 · exact tA H k d h a c
end
end V.Px
namespace V.Px
open Go Go.RowKit M
theorem yf(a:Int)(w:World):Calls prog 318 #[.int .i64 a] w λe w'=>e=.returned (.bool false)/\w=w':=by
 go_enter func318,ntmps318;go_wp2;go_ret;exact⟨rfl,rfl⟩
theorem yc(a:Int)(w:World):Calls prog 336 #[.int .i64 a] w λe w'=>e=.returned (.bool false)/\w=w':=by
 go_enter func336,ntmps336;go_wp2;go_ret;exact⟨rfl,rfl⟩
theorem less_any(a c:Int)(w:World):Calls prog 317 #[.int .i64 a,.int .i64 c] w λe w'=>e=.returned (.bool (decide (a<c)))/\w=w':=by
 go_enter func317,ntmps317;go_wp2_with (go_at_call 336;refine(yc _ _).mono ?_;rintro e w' ⟨rfl,rfl⟩);go_ret;exact⟨rfl,rfl⟩
structure Bs(f:Nat->Int)(n:Nat)(x:Int)(i:Nat):Prop where
 le:i<=n
 lo:i=0\/f (i - 1)<x
 hi:i=n\/x<=f i
def Iy(f:Nat->Int)(n:Nat)(x:Int)(W:World)(e:Ending)(w':World):Prop:=∃ (i:Nat) (bb:Bool),e=.returned (.tuple #[.int .i64 i,.bool bb])/\Bs f n x i/\W=w'
theorem Ii(A:Option Addr)(n c:Nat)(f:Nat->Int)(x:Int)(W:World)(R:n<=1048576)(H:av W .i64 A n f):
 Calls prog 299 #[.slice A n c,.int .i64 x] W (Iy f n x W):=by
 have v:=qH H;clear H;go_enter func299,ntmps299;go_wp2_with fail
 go_loop [7,8] (λi j=> ∃a d:Nat,i=.int .i64 a/\j=.int .i64 d/\a<=d/\d<=n/\(a=0\/f (a - 1)<x)/\(d=n\/x<=f d)) (λi j=>((intOf j) - (intOf i)).toNat)
 case atStart=>exact⟨0,n,rfl,rfl,by omega,qR,.inl rfl,.inl rfl⟩
 case round=>
  obtain⟨a,d,rfl,rfl,Q,C,E,I⟩:=hrel;obtain⟨p,r⟩:=qh2 E I;clear E I;by_cases N:a<d
  · obtain⟨h,J⟩:∃h,(a+d) /2=h:=⟨_,rfl⟩
    have K:a<=h:=(by omega);have M:h<d:=(by omega);have u:h<n:=(by omega);have O:((a:Int)+(d:Int)) /2=(h:Int):=(by omega);obtain⟨b,o,rfl,_,l⟩:=v.o (by omega);have t:=l h u;clear J l;generalize m:f h=y at t;have z:=qH m;clear m;go_wp2_with (go_at_call 317;refine(less_any _ _ _).mono ?_;rintro e w' ⟨rfl,rfl⟩)
    · have q:y<x:=by assumption
      go_round
      case rel=>exact⟨h+1,d,by go_num,rfl,by omega,by omega,.inr (by rw[Bo,z.o];exact q),r.o⟩
      case measure=>simp[intOf];omega
    · have q:x<=y:=by assumption
      go_round
      case rel=>exact⟨a,h,rfl,rfl,by omega,by omega,p.o,.inr (by rw[z.o];exact q)⟩
      case measure=>simp[intOf];omega
  · obtain rfl:a=d:=by omega
    by_cases g:a<n
    · obtain⟨b,o,rfl,_,l⟩:=v.o (by omega)
      have t:=l a g;generalize m:f a=y at t;clear m l;go_wp2_with (go_at_call 318;refine(yf _ _).mono ?_;rintro e w' ⟨rfl,rfl⟩)
      all_goals
       go_ret2;exact⟨a,_,rfl,⟨C,p.o,r.o⟩,rfl⟩
    · go_wp2_with fail
      go_ret2;exact⟨a,_,rfl,⟨C,p.o,r.o⟩,rfl⟩
theorem GU(b o j:Nat):(⟨b,o,none⟩:Addr).add j=⟨b,o+j,none⟩:=by
 unfold Addr.add
 split
 · rename_i h;subst h;rfl
 · rfl
end V.Px
namespace V.Px
open Go Go.RowKit M
open Go.ChangeShapes (lits)
section
variable {B F:Nat} {s:ByteArray} {L:List Nat} {la:Int} {w:World}
theorem zr(H:Fd w B F s L la)(x d:Int)(g:x<0\/(s.size:Int) - 3<x):
 Calls prog 266 #[.pointer (some ⟨F,0,none⟩),.int .i64 x,.int .i64 d] w λe w'=>e=.returned (.slice none 0 0)/\Below w.heap.size w w':=by
 have i:Hd (Calls prog 264 #[.pointer (some ⟨F,0,none⟩),.int .i64 x] w λe w'=>e=.returned (.tuple #[.agg #[.int .u8 0,.int .u8 0,.int .u8 0],.bool false])/\Below w.heap.size w w'):=by
  rcases g with h|h
  · exact qH (jT H x h)
  · exact qH (gR H x h)
 clear H g;go_enter func266,ntmps266;go_wp2_with fail;refine i.o.mono ?_;rintro e j ⟨rfl,c⟩;have a:=qH c;clear c;go_wp2_with fail;go_ret;exact⟨rfl,a.o.alloc a.o.size _⟩
theorem zt(H:Fd w B F s L la)(k:Nat)(d:Int)(l:k+3<=s.size)(m:d<1):
 Calls prog 266 #[.pointer (some ⟨F,0,none⟩),.int .i64 k,.int .i64 d] w λe w'=>e=.returned (.slice none 0 0)/\Below w.heap.size w w':=by
 have c:=qH (fk H k l);obtain⟨r,h⟩:∃x,byt s k=x:=⟨_,rfl⟩
 obtain⟨t,i⟩:∃x,byt s (k+1)=x:=⟨_,rfl⟩
 obtain⟨u,j⟩:∃x,byt s (k+2)=x:=⟨_,rfl⟩
 rw[h,i,j] at c;clear H h i j;go_enter func266,ntmps266;go_wp2_with fail;refine c.o.mono ?_;rintro e p ⟨rfl,g⟩;have a:=qH g;clear g;unfold rkey;go_wp2_with fail;go_ret;exact⟨rfl,a.o.alloc a.o.size _⟩
def dJ(s:ByteArray)(L:List Nat)(k:Nat)(d:Int)(W:World)(e:Ending)(w':World):Prop:=
 ∃A c,e=.returned (.slice A (nr s L k d).length c)/\(0<(nr s L k d).length->∃b o cur,A=some ⟨b,o,none⟩/\w'.heap[b]? =some (.cells cur 3 (0,0))/\∀i,i<(nr s L k d).length->cur[o+i]? =some (.int .i64 (((nr s L k d).reverse.getD i 0:Nat):Int)))/\Below W.heap.size W w'
theorem uC(H:Fd w B F s L la)(k:Nat):∃ (b:Nat) (A:Option Addr) (c:Nat),w.cell? ⟨F,2,none⟩=some (.map (some b))/\b<w.heap.size/\
 (∀u:World,u.heap[b]? =w.heap[b]? ->(Instr.lookup 276 (.map (some b)) (rkey (byt s k) (byt s (k+1)) (byt s (k+2))) false).run prog u=.ok (.slice A (grp s L (byt s k) (byt s (k+1)) (byt s (k+2))).length c) u)/\
 (grp s L (byt s k) (byt s (k+1)) (byt s (k+2))).length<=c/\c<=maxLen/\(0<c->∃g a,A=some ⟨g,0,none⟩/\w.heap[g]? =some (.cells a 3 (0,0))/\g<w.heap.size/\∀i,i<(grp s L (byt s k) (byt s (k+1)) (byt s (k+2))).length->a[i]? =some (.int .i64 (((grp s L (byt s k) (byt s (k+1)) (byt s (k+2))).getD i 0:Nat):Int))):=by
 obtain⟨b,base,D,I,J,Q,V,W,X,Y⟩:=H.own;have l:=cU s k;have m:=cU s (k+1);have o:=cU s (k+2);have Z:=H.count;have hl:=H.len;obtain⟨v,C,d,r,j,T⟩:=mH J rowLaw underlying276 zeroS (by unfold maxLen;omega) (rk_some l m o);have M:=Q.owned l m o r j;obtain⟨U,clock,x,_⟩:=id J;have f:b<w.heap.size:=(qW.1 x).1;have h:C.length=(grp s L (byt s k) (byt s (k+1)) (byt s (k+2))).length:=(by rw[M,my]);rcases j.1.2 with⟨rfl,N⟩|⟨g,p,a,rfl,hg,K,R,y,O,S⟩
 · refine⟨b,none,0,I,f,λu z=> ?_,by omega,by unfold maxLen;omega,λq=>by omega⟩
   rw[d u z,<-h,N]
 · refine⟨b,some ⟨g,0,none⟩,p,I,f,λu z=> ?_,by omega,y,λ_=>⟨g,a,rfl,K,(qW.1 K).1,λi hi=> ?_⟩⟩
   · rw[d u z,<-h]
   · have E:(a.toList.take (C.length*1))[i]? =(C.map (Value.int .i64))[i]? :=by rw[S]
     rw[AD,A7 (by omega)] at E;rw[<-BM,E,M];simp[yQ,List.getD,qE hi]
end
theorem ER{l:List Nat}(hs:l.Pairwise (· < ·)){x:Int}{i:Nat}(h:Bs (λi=>((l.getD i 0:Nat):Int)) l.length x i):
 (∀ (j y:Nat),l[j]? =some y->j<i->(y:Int)<x)/\(∀ (j y:Nat),l[j]? =some y->i<=j->x<=(y:Int)):=by
 have I:=List.pairwise_iff_getElem.1 hs;have C:=h.le;have d:∀ (a b y z:Nat),l[a]? =some y->l[b]? =some z->a<=b->y<=z:=λa b y z t v u=>by
  obtain⟨f,o⟩:=An.1 t;obtain⟨r,p⟩:=An.1 v;by_cases c:a=b
  · subst c;rw[<-o,<-p];exact qR
  · have:=I a b f r (by omega)
    omega
 constructor
 · intro j y m E
   rcases h.lo with e|e
   · omega
   · have hi:i - 1<l.length:=by omega
     have f:l[i - 1]? =some (l.getD (i - 1) 0):=(by simp[List.getD,qE hi]);have:=d _ _ _ _ m f (by omega);omega
 · intro j y m g
   have A:=(An.1 m).1;rcases h.hi with e|e
   · omega
   · have hi:i<l.length:=by omega
     have f:l[i]? =some (l.getD i 0):=(by simp[List.getD,qE hi]);have:=d _ _ _ _ f m g;omega
theorem Js(s:ByteArray)(L:List Nat)(k:Nat)(d:Int):(nr s L k d).reverse=(cnd s L k).drop ((cnd s L k).length - d.toNat):=by
 unfold nr;rw[List.take_reverse,List.reverse_reverse]
theorem vQ{s:ByteArray}{L:List Nat}{k:Nat}(A:k+3<=s.size)(hs:L.Pairwise (· < ·)){l:List Nat}(u:grp s L (byt s k) (byt s (k+1)) (byt s (k+2))=l){fr to:Nat}{d:Int}(M:1<=d)
 (o:Bs (λi=>((l.getD i 0:Nat):Int)) l.length ((k:Int) - 32768) fr) (p:Bs (λi=>((l.getD i 0:Nat):Int)) l.length (k:Int) to):
 fr<=to/\∀lo:Nat,(lo:Int)=max (fr:Int) ((to:Int) - d)->lo<=to/\(nr s L k d).length=to - lo/\∀i,i<to - lo->(nr s L k d).reverse.getD i 0=l.getD (lo+i) 0:=by
 have v:l.Pairwise (· < ·):=(by rw[<-u];exact hs.filter _);obtain⟨h,x⟩:=ER v o;obtain⟨z,m⟩:=ER v p;have E:=o.le;have I:=p.le;have f:fr<=to:=by
  apply Classical.byContradiction
  intro c;have hi:to<l.length:=(by omega);have e:l[to]? =some (l.getD to 0):=(by simp[List.getD,qE hi]);have J:=h _ _ e (by omega);have K:=m _ _ e qR;omega
 have t:=Hx A u.symm h x (λj y q r=>by have:=z j y q r;omega) (λj y q r=>by have:=m j y q r;omega);have a:(cnd s L k).length=to - fr:=(by rw[t,AF,Af];omega);refine⟨f,λlo C=> ?_⟩;have g:lo<=to:=(by omega);refine⟨g,by rw[tW,a];omega,λi hi=> ?_⟩;rw[Js,a,t,List.drop_drop,List.getD,List.getD,Bm,AD,A7 (by omega)];congr 2;omega
section
variable {B F:Nat} {s:ByteArray} {L:List Nat} {la:Int} {w:World}
theorem zq(H:Fd w B F s L la)(k:Nat)(d:Int)(hk:k+3<=s.size)(hd:1<=d)(a7:d<=9223372036854775807):
 Calls prog 266 #[.pointer (some ⟨F,0,none⟩),.int .i64 k,.int .i64 d] w (dJ s L k d w):=by
 have HS:=qH (fk H k hk);have HH:=qH H;have hl:=H.len;obtain⟨x0,q0⟩:∃x,byt s k=x:=⟨_,rfl⟩
 obtain⟨x1,U⟩:∃x,byt s (k+1)=x:=⟨_,rfl⟩
 obtain⟨x2,S⟩:∃x,byt s (k+2)=x:=⟨_,rfl⟩
 obtain⟨Q0,Q1,Q2⟩:=qh3 q0 U S;rw[q0,U,S] at HS;clear H q0 U S;go_enter func266,ntmps266;go_wp2_with fail;refine HS.o.mono ?_;rintro e r ⟨rfl,b2⟩;have W:=qH (HH.o.below b2);have B2:=qH b2;clear b2;obtain⟨b,A,c,f1,f2,v,f4,a2,f5⟩:=uC W.o k;have j:(grp s L (byt s k) (byt s (k+1)) (byt s (k+2))).length<=1048576:=by
  have h1:=W.o.count;have h2:(grp s L (byt s k) (byt s (k+1)) (byt s (k+2))).length<=L.length:=DK _ _;omega
 generalize O:grp s L (byt s k) (byt s (k+1)) (byt s (k+2))=l at v f4 f5 j;rw[Q0.o,Q1.o,Q2.o] at v;have HL:=qH O;have F3:=qH (λn=>v ((r.alloc (.cells #[.int .u8 x0,.int .u8 x1,.int .u8 x2] 348)).drewN n) (Below.heap_alloc r _ b f2));have V:=qH f5;have g1:(r.alloc (.cells #[.int .u8 x0,.int .u8 x1,.int .u8 x2] 348)).cell? ⟨F,2,none⟩=some (.map (some b)):=cell_more f1 _;unfold maxLen at a2;clear f1 v f5 O;generalize hm:l.length=m at f4 j F3 V;have HM:=qH hm;clear hm;unfold rkey;go_wp2_with fail;have v:=F3.o;unfold rkey at v
 go_quiet (fail)
 clear v;have HN:=qH (show ∀E,Below r.heap.size r E->av E .i64 A m (λi=>((l.getD i 0:Nat):Int)) from λE T hm=>by
  obtain⟨g,a,K,M,I,N⟩:=V.o (by omega);refine⟨g,0,K,Ag I T.size,λi hi=> ?_⟩;rw[Aa];refine(T.cell (p:=⟨g,i,none⟩) I).trans ?_
  rw[cell_of_row _ _ _ _ _ _ M];exact N i hi)
 have HB:=qH (λx E T=>Ii A m c (λi=>((l.getD i 0:Nat):Int)) x E j (HN.o E T));go_wp2_with fail;refine(HB.o _ _ (aj (qL) _)).mono ?_;rintro e w3 ⟨fr,a5,rfl,y,rfl⟩;have Y:=qH y;have a3:=y.le;clear y;go_wp2_with fail;refine(HB.o _ _ (aj (qL) _)).mono ?_;rintro e w3 ⟨u,a6,rfl,C,rfl⟩;have a1:=qH C;have a4:=C.le;clear C;have J:=qH (vQ hk W.o.rise HL.o hd (by rw[HM.o];exact Y.o) (by rw[HM.o];exact a1.o));obtain⟨a8,h⟩:=J.o;have h:=qH h;clear J;obtain⟨lo,z⟩:∃lo:Nat,(lo:Int)=max (fr:Int) ((u:Int) - d):=⟨(max (fr:Int) ((u:Int) - d)).toNat,by omega⟩
 obtain⟨a9,Q,R⟩:=h.o lo z;have aa:fr<=lo:=(by omega);obtain⟨Z,a0⟩:=qh2 Q R;obtain⟨X,hX⟩:∃X,(if c=lo then A else Option.map (λx=>x.add lo) A)=X:=⟨_,rfl⟩
 have HF:Hd (0<u - lo->∃b o a,X=some ⟨b,o,none⟩/\r.heap[b]? =some (.cells a 3 (0,0))/\b<r.heap.size/\∀i,i<u - lo->a[o+i]? =some (.int .i64 ((l.getD (lo+i) 0:Nat):Int))):=qH λhp=>by
  obtain⟨g,a,K,M,I,N⟩:=V.o (by omega);refine⟨g,lo,a,?_,M,I,λi hi=>N (lo+i) (by omega)⟩;rw[<-hX,A0 (by omega),K];simp only[Option.map];rw[GU,Aa]
 have HE:Hd (∀n,dJ s L k d w (.returned (.slice X (u - lo) (c - lo))) ((r.alloc (.cells #[.int .u8 x0,.int .u8 x1,.int .u8 x2] 348)).drewN n)):=qH λn=>by
  unfold dJ;rw[Z.o];refine⟨X,_,rfl,λhp=> ?_,aj (B2.o.alloc B2.o.size _) n⟩;obtain⟨b,o,a,K,M,I,N⟩:=HF.o hp;exact⟨b,o,a,K,(Below.heap_alloc r _ b I).trans M,λi hi=>by rw[a0.o i hi];exact N i hi⟩
 clear h Q R;by_cases hc:(fr:Int)<(u:Int) - d
 · have U:(u:Int) - d=(lo:Int):=by omega
   have ab:lo<=c:=(by omega);have S:max (fr:Int) (lo:Int)=(lo:Int):=(by omega);clear z;go_wp2_with fail;go_ret;exact HE.o _
 · obtain rfl:lo=fr:=by omega
   have S:max (lo:Int) ((u:Int) - d)=(lo:Int):=(by omega);clear z;go_wp2_with fail;go_ret;exact HE.o _
theorem ou{s:ByteArray}{L:List Nat}{k:Nat}{d:Int}(h:d<1\/¬k+3<=s.size):(nr s L k d).length=0:=by
 rw[tW];rcases h with h|h
 · have:d.toNat=0:=by omega
   rw[this];exact Nat.zero_min _
 · unfold cnd
   rw[A0 h];exact Nat.min_zero _
theorem zu(H:Fd w B F s L la)(k:Nat)(d:Int)(c:d<=9223372036854775807):
 Calls prog 266 #[.pointer (some ⟨F,0,none⟩),.int .i64 k,.int .i64 d] w (dJ s L k d w):=by
 by_cases c1:k+3<=s.size
 · by_cases a:d<1
   · refine(zt H k d c1 a).mono ?_
     rintro e w' ⟨rfl,b⟩;exact⟨none,0,by rw[ou (.inl a)],λg=>by rw[ou (.inl a)] at g;omega,b⟩
   · exact zq H k d c1 (by omega) c
 · refine(zr H k d (.inr (by omega))).mono ?_
   rintro e w' ⟨rfl,b⟩;exact⟨none,0,by rw[ou (.inr c1)],λg=>by rw[ou (.inr c1)] at g;omega,b⟩
theorem Jt(H:Fd w B F s L la)(k:Nat)(d:Int):(nr s L k d).length<=1048576:=by
 have a:=H.count;have f:=H.len;have g:(cnd s L k).length<=L.length:=by
  unfold cnd;by_cases c:k+3<=s.size
  · rw[A7 c]
    exact qK (DK _ _) (DK _ _)
  · rw[A0 c];exact qZ
 rw[tW];omega
end
end V.Px
namespace V.Px
open Go Go.RowKit M
section
variable {B F:Nat} {s:ByteArray} {L:List Nat} {la:Int} {w:World}
theorem alike_any(H:Fd w B F s L la)(p k:Nat)(V:p<k)(S:k+3<=s.size)(C:3<=lng s p k):
 Calls prog 267 #[.pointer (some ⟨F,0,none⟩),.int .i64 p,.int .i64 k] w λe w'=>e=.returned (.int .i64 (lng s p k))/\∃n,w'=w.drewN n:=by
 have R:=H.c0;have T:=H.len;obtain⟨ms,a⟩:∃ms,most s k=ms:=⟨_,rfl⟩
 have O:(if(s.size:Int) - (k:Int)<258 then(s.size:Int) - (k:Int) else 258)=(ms:Int):=by
  rw[<-a];unfold most;by_cases c:(s.size:Int) - (k:Int)<258
  · rw[A7 c];omega
  · rw[A0 c];omega
 have Q:min (258:Int) ((s.size:Int) - (k:Int))=(ms:Int):=(by rw[<-a];unfold most;omega);have K:ms<=258/\k+ms<=s.size/\3<=ms:=(by rw[<-a];unfold most;omega);have j:=qH (oF s p k);have d:=qH a;clear H a;generalize M:lng s p k=z at C j ⊢;have N:z<=ms:=(by have:=j.o.le;rw[d.o] at this;exact this);clear M;go_enter func267,ntmps267;go_wp2_with fail
 go_loopw [8] (λi wr=> ∃n c:Nat,i=.int .i64 n/\n<=z/\wr=w.drewN c) (λi _=>z - (intOf i).toNat)
 case atStart=>exact⟨3,0,rfl,C,rfl⟩
 case round=>
  obtain⟨n,c,rfl,U,rfl⟩:=hrel;by_cases c1:n<ms
  · obtain⟨x,r⟩:∃x,p+n=x:=⟨_,rfl⟩
    obtain⟨y,t⟩:∃y,k+n=y:=⟨_,rfl⟩
    have u:x<s.size:=(by omega);have v:y<s.size:=(by omega);have l:=pw u;have m:=pw v;have W:IntKind.i64.wrap ((p:Int)+(n:Int))=(x:Int):=(by rw[IntWalk.i64_in _ (by omega)];omega);have X:IntKind.i64.wrap ((k:Int)+(n:Int))=(y:Int):=(by rw[IntWalk.i64_in _ (by omega)];omega);have E:(p:Int)+(n:Int)=(x:Int):=(by omega);have I:(k:Int)+(n:Int)=(y:Int):=(by omega);by_cases h:byt s x=byt s y
    · have A:n<z:=by
       rcases By n z with g|g
       · exact g
       · obtain rfl:n=z:=by omega
         rcases j.o.stop with q|q
         · rw[d.o] at q;omega
         · rw[r,t] at q;exact absurd h q
      have J:(((s[x]'u).toNat:Int)==((s[y]'v).toNat:Int))=true:=(by rw[l,m,h];simp);clear l m h r t;go_wp2_with fail
      go_quiet (fail)
      clear E I;go_wp2_with fail;go_roundw
      case rel=>exact⟨n+1,_,by go_num,by omega,rfl⟩
      case measure=>simp[intOf];omega
    · have A:n=z:=by
       rcases By n z with g|g
       · have:=j.o.same n g
         rw[r,t] at this;exact absurd this h
       · omega
      have J:(((s[x]'u).toNat:Int)==((s[y]'v).toNat:Int))=false:=(by rw[l,m,qN];omega);clear l m h r t;subst A;go_wp2_with fail
      go_quiet (fail)
      clear E I;go_wp2_with fail;go_ret;exact⟨rfl,_,World.drewN_drewN _ _ _⟩
  · obtain rfl:n=z:=by omega
    go_wp2_with fail
    go_quiet (fail)
    go_wp2_with fail;go_ret;exact⟨rfl,_,World.drewN_drewN _ _ _⟩
end
attribute [local go_sem] Oper.semAt_some
def oZ(n j:Nat):List Nat:=(List.range j).map λi=>n - 1 - i
theorem kP(n j:Nat):oZ n (j+1)=oZ n j++[n - 1 - j]:=by simp[oZ,Bi]
theorem mM(n j:Nat):(oZ n j).length=j:=by simp[oZ]
abbrev Ix(n:Nat):={i:Nat//i<n}
def KH(n:Nat)(f:Nat->Int)(x:Ix n):Array Value:= #[.int .i64 (x.1:Int),.int .i64 (f x.1)]
def Sx(M n₁:Nat):Nat->Prop:=λj=>j=M\/n₁<=j
theorem keptSx_t{M n₁:Nat}{A B C:World}(h:Kept (Sx M n₁) A B)(k:Kept (Sx M n₁) B C):Kept (Sx M n₁) A C:=h.trans k λj a=> .inl a
theorem keptSx_b{M n₁:Nat}(W:World)(l:Nat)(o a:Obj)(c:n₁<=l)(h:W.heap[l]? =some o):Kept (Sx M n₁) W (W.putObj l a):=
 (Kept.refl _ W).grown (grownBy_putObj' W l a) (λk e=>by cases e;exact .inl (.inr c))
theorem zM(m l Bs M n₁ n c:Nat)(A:Option Addr)(f:Nat->Int)(hm:1<=m)(hn:n<=1048576)(N:Bs<n₁)(O:Bs≠M)(J Jx:List (Ix n)->World->Prop)
 (hY:∀a x W,J a W->a.length<n->YieldAt Fence.wide (m - 1) prog l (KH n f x) W λe p=>
  (e=.returned (.bool true)/\J (a++[x]) p/\Kept (Sx M n₁) W p)\/(e=.returned (.bool false)/\Jx (a++[x]) p))
 (W:World) (t:W.cell? ⟨Bs,0,none⟩=some (.slice A n c)) (hc:0<n->∃b o,A=some ⟨b,o,none⟩/\b<n₁/\b≠M/\∀i,i<n->W.cell? ⟨b,o+i,none⟩=some (.int .i64 (f i))) (h0:J [] W):
 CallsIn Fence.wide m prog 298 #[.func (.yield l) #[] #[],.pointer (some ⟨Bs,0,none⟩)] W λe p=>(∃v,e=.returned v)/\
  ((∃ys:List (Ix n),ys.map (·.1)=oZ n n/\J ys p)\/(∃a:List (Ix n),(∃j,j<=n/\a.map (·.1)=oZ n j)/\Jx a p)):=by
 refine callsIn_of_wp func298 rfl trivial ?_ rfl;simp only[ntmps298,AE,qC,AB,Nat.reduceAdd,Nat.reduceSub,Be,Bf,Bg,Bh,Ap,Ac];gi_wp2
 gi_loopw [3] (λi wr=> ∃ (r:Nat) (a:List (Ix n)),r<=n/\((r=0/\i=.int .i64 (-1))\/(∃q,r=q+1/\i=.int .i64 q))/\a.map (·.1)=oZ n (n - r)/\J a wr/\Kept (Sx M n₁) W wr)
  (λi _=>(intOf i+1).toNat)
 case atStart=>
  refine⟨n,[],qR,?_,by simp[oZ],h0,Kept.refl _ _⟩;cases n with
  |zero=>exact .inl ⟨rfl,by simp⟩
  |succ q=>exact .inr ⟨q,rfl,by go_num⟩
 case round=>
  obtain⟨r,a,hr,hi,K,u,I⟩:=hrel;have a0:wr.cell? ⟨Bs,0,none⟩=some (.slice A n c):=I.cell t (λg=>by rcases g with g|g;exact O g;exact absurd N (by simpa using g));have h:a.length=n - r:=by
   have:=congrArg List.length K
   rwa [Ah,mM] at this
  rcases hi with⟨rfl,rfl⟩|⟨q,rfl,rfl⟩
  · gi_wp2
    go_end0;exact⟨⟨_,rfl⟩,.inl ⟨a,by rw[K,CB],u⟩⟩
  · have d:q<n:=by omega
    have V:a.length<n:=(by omega);have C:0<n:=(by omega);obtain⟨b,o,rfl,R,S,z⟩:=hc C;have T:wr.cell? ⟨b,o+q,none⟩=some (.int .i64 (f q)):=I.cell (z q d) (λg=>by rcases g with g|g;exact S g;exact absurd R (by simpa using g));obtain⟨fn,tmps,E,body,X,hR⟩:=hY a ⟨q,d⟩ wr u V;unfold KH at X;dsimp only at X;generalize Y:f q=y at T X;obtain⟨HK,Z,HL⟩:=qh3 I K h;clear I hc z Y t K h;gi_wp2;refine hR.mono ?_
    rintro e W3 (⟨rfl,Q,U⟩|⟨rfl,hJx3⟩)
    · gi_wp2
      go_roundw
      case rel=>exact⟨q,a++[⟨q,d⟩],by omega,(by
       cases q with
       |zero=>exact .inl ⟨rfl,by simp⟩
       |succ q=>exact .inr ⟨q,rfl,by go_num⟩),(by
       rw[Aw,Z.o,show n - q=(n - (q+1))+1 by omega,kP];simp only[Al,Av];congr 2;omega),Q,keptSx_t HK.o U⟩
      case measure=>simp[intOf]
    · gi_wp2
      refine bodyPost_ret (results_none rfl _ _ _) rfl ?_
      exact⟨⟨_,rfl⟩,.inr ⟨a++[⟨q,d⟩],⟨n - q,by omega,(by
       rw[Aw,Z.o,show n - q=(n - (q+1))+1 by omega,kP];simp only[Al,Av];congr 2;omega)⟩,hJx3⟩⟩
theorem zL(A:Option Addr)(n c:Nat)(w:World):
 Calls prog 265 #[.slice A n c] w λe w'=>e=.returned (.func (.func 298) #[] #[.pointer (some ⟨w.heap.size,0,none⟩)])/\w'=w.alloc (.cells #[.slice A n c] 104):=by
 go_enter func265,ntmps265;go_wp2;go_ret;exact⟨rfl,rfl⟩
theorem rD(m Bs M n₁ n c:Nat)(A:Option Addr)(f:Nat->Int)(N:1<=m)(O:n<=1048576)(w:World)(a:Bs<w.heap.size)(d:Bs<n₁)(g:Bs≠M)
 (h:w.cell? ⟨Bs,0,none⟩=some (.slice A n c)) (K:0<n->∃b o,A=some ⟨b,o,none⟩/\b<n₁/\b≠M/\∀i,i<n->w.cell? ⟨b,o+i,none⟩=some (.int .i64 (f i))):
 SeqStopsK Fence.wide m prog 298 #[.pointer (some ⟨Bs,0,none⟩)] (KH n f) (Kept (Sx M n₁)) (λR=>R.map (·.1)=oZ n n) (λt=> ∃j,j<=n/\t.map (·.1)=oZ n j) n w:=λl J x W v _ _ I E=>by
 have r:0<n->∃b o,A=some ⟨b,o,none⟩/\b<n₁/\b≠M/\∀i,i<n->W.cell? ⟨b,o+i,none⟩=some (.int .i64 (f i)):=λQ=>by
  obtain⟨b,o,y,z,C,u⟩:=K Q;exact⟨b,o,y,z,C,λi hi=>(v.cell (p:=⟨b,o+i,none⟩) (qB (u i hi))).trans (u i hi)⟩
 exact zM m l Bs M n₁ n c A f N O d g J x I W ((v.cell (p:=⟨Bs,0,none⟩) a).trans h) r E
end V.Px
namespace V.Px
open Go Go.RowKit M
attribute [local go_sem] Oper.semAt_some
def two(a b:Value)(i:Nat):Value:=if i=0 then a else b
def R2(w:World)(T:TypeId)(g:Nat)(a b:Value):Prop:=w.rowIs g T 2 (two a b)
section
variable {w w':World} {T:TypeId} {g:Nat} {a b:Value}
theorem R2.drewN(h:R2 w T g a b)(n:Nat):R2 (w.drewN n) T g a b:=h
theorem R2.lt(h:R2 w T g a b):g<w.heap.size:=World.rowIs.lt h
theorem R2.at0(h:R2 w T g a b):w.cell? ⟨g,0,none⟩=some a:=World.rowIs.cell h (i:=0) (by omega)
theorem R2.at1(h:R2 w T g a b):w.cell? ⟨g,1,none⟩=some b:=World.rowIs.cell h (i:=1) (by omega)
theorem R2.frozen(h:R2 w T g a b)(i:Nat):w.frozen? ⟨g,i,none⟩=false:=World.rowIs.frozen h i
theorem R2.put(h:R2 w T g a b)(c d:Value):R2 ((w.setCell ⟨g,0,none⟩ c).setCell ⟨g,1,none⟩ d) T g c d:=
 World.rowIs.congr (World.rowIs.set (World.rowIs.set h 0 c) 1 d) (λj f=>by
  match j,f with
  |0,_=>rfl
  |1,_=>rfl)
theorem R2.below(h:R2 w T g a b){B:Nat}(d:Below B w w')(c:g<B):R2 w' T g a b:=World.rowIs.of_block h (d.block g c)
end
theorem R2.kept{S:Nat->Prop}{w w':World}{T:TypeId}{g:Nat}{a b:Value}(h:R2 w T g a b)(d:Kept S w w')(c:¬S g):R2 w' T g a b:=World.rowIs.of_block h (d.block g h.lt c)
theorem oI(W:World)(n:Nat):KeepsOthers W (W.drewN n):=⟨qR,λk o c _=>c⟩
def Mid(w8:World)(M n₁:Nat)(s:ByteArray)(k:Nat)(nice over:Int)(vf:Nat->Nat)(n:Nat)(pre:List (Ix n))(W:World):Prop:=
 (∃mm:Nat×Nat,R2 W 143 M (.int .i64 mm.1) (.int .i64 mm.2)/\∀rest,fnd s k nice over (pre.map (λx=>vf x.1)++rest) (0,0)=fnd s k nice over rest mm)/\Kept (Sx M n₁) w8 W
def Out(w8:World)(M n₁:Nat)(s:ByteArray)(k:Nat)(nice over:Int)(vf:Nat->Nat)(n:Nat)(c:Code)(pre:List (Ix n))(W:World):Prop:=
 (c=.exit 0/\∃mm:Nat×Nat,R2 W 143 M (.int .i64 mm.1) (.int .i64 mm.2)/\∀rest,fnd s k nice over (pre.map (λx=>vf x.1)++rest) (0,0)=mm)/\Kept (Sx M n₁) w8 W
theorem E7{W c:World}{T:TypeId}{M n₁:Nat}{a b:Value}{row:Option Nat}(i:M<n₁)(h:R2 W T M a b)(d:W.grownBy c row)(f:∀r,row=some r->n₁<=r/\∃o:Obj,W.heap[r]? =some o/\o.isCells=false):R2 c T M a b:=
 World.rowIs.of_block h (d.block M h.lt (λe=>by have:=(f M e.symm).1;omega))
theorem oH{c W W':World}{M n₁:Nat}{row:Option Nat}(h:Kept (Sx M n₁) c W)(d:W.grownBy W' row)(f:∀r,row=some r->n₁<=r/\∃o:Obj,W.heap[r]? =some o/\o.isCells=false):Kept (Sx M n₁) c W':=
 h.grown d (λr e=> .inl (.inr (f r e).1))
theorem Mid.own{r:World}{M n₁:Nat}{s:ByteArray}{k:Nat}{c over:Int}{p:Nat->Nat}{n:Nat}(l:M<n₁):OwnFrom n₁ (Mid r M n₁ s k c over p n):=λo W t row hs d f=>by
 obtain⟨⟨m,h,i⟩,j⟩:=hs;exact⟨⟨m,E7 l h d f,i⟩,oH j d f⟩
theorem Out.own{u:World}{M n₁:Nat}{s:ByteArray}{k:Nat}{d over:Int}{t:Nat->Nat}{n:Nat}(o:M<n₁)(c:Code):OwnFrom n₁ (Out u M n₁ s k d over t n c):=λr W v row hs f h=>by
 obtain⟨⟨i,p,j,l⟩,m⟩:=hs;exact⟨⟨i,p,E7 o j f h,l⟩,oH m f h⟩
theorem new_at(w:World)(o:Obj):(w.alloc o).heap[w.heap.size]? =some o:=heap_alloc_new w o
theorem old_at{w:World}{i:Nat}{x:Obj}(o:Obj)(h:w.heap[i]? =some x):(w.alloc o).heap[i]? =some x:=(Below.heap_alloc w o i (qW.1 h).1).trans h
theorem six(w:World)(c d f h i o5:Obj):∃W,((((((w.alloc c).alloc d).alloc f).alloc h).alloc i).alloc o5)=W/\W.heap.size=w.heap.size+6/\Below w.heap.size w W/\
 W.heap[w.heap.size]? =some c/\W.heap[w.heap.size+1]? =some d/\W.heap[w.heap.size+2]? =some f/\W.heap[w.heap.size+3]? =some h/\W.heap[w.heap.size+4]? =some i/\W.heap[w.heap.size+5]? =some o5:=by
 refine⟨_,rfl,by simp,(((((((Below.refl _ w).alloc qR c).alloc (by simp) d).alloc (by simp;omega) f).alloc (by simp;omega) h).alloc (by simp;omega) i).alloc (by simp;omega) o5),?_,?_,?_,?_,?_,?_⟩
 · exact old_at _ (old_at _ (old_at _ (old_at _ (old_at _ (new_at _ _)))))
 · have:=new_at (w.alloc c) d
   rw[World.size_alloc] at this;exact old_at _ (old_at _ (old_at _ (old_at _ this)))
 · have:=new_at ((w.alloc c).alloc d) f
   rw[World.size_alloc,World.size_alloc] at this;exact old_at _ (old_at _ (old_at _ this))
 · have:=new_at (((w.alloc c).alloc d).alloc f) h
   simp only[World.size_alloc] at this;exact old_at _ (old_at _ this)
 · have:=new_at ((((w.alloc c).alloc d).alloc f).alloc h) i
   simp only[World.size_alloc] at this;exact old_at _ this
 · have:=new_at (((((w.alloc c).alloc d).alloc f).alloc h).alloc i) o5
   simp only[World.size_alloc] at this;exact this
theorem Jf{W:World}{T:TypeId}{g:Nat}{a b:Value}(h:W.heap[g]? =some (.cells #[a,b] T (0,0))):R2 W T g a b:=⟨#[a,b],h,rfl,λi hi=>by
 match i,hi with
 |0,_=>rfl
 |1,_=>rfl⟩
theorem one_cell{W:World}{T:TypeId}{g:Nat}{a:Value}(h:W.heap[g]? =some (.cells #[a] T (0,0))):W.cell? ⟨g,0,none⟩=some a:=by simp[World.cell?,h]
theorem se{l:List Nat}{j:Nat}(f:j<=l.length):(oZ l.length j).map (λi=>l.reverse.getD i 0)=l.take j:=by
 apply D8
 intro i;unfold oZ;rw[BC,Am,AD];by_cases c:i<j
 · rw[A7 c,Bj c]
   have d:l.length - 1 - i<l.length:=(by omega);simp only[Option.map,Function.comp,List.getD];rw[List.getElem?_reverse d,show l.length - 1 - (l.length - 1 - i)=i by omega,qE (show i<l.length by omega)];rfl
 · rw[A0 c,BW (by simp;omega)]
   rfl
theorem nu{n:Nat}{vf:Nat->Nat}{d:List (Ix n)}{c:List Nat}(h:d.map (·.1)=c):d.map (λx=>vf x.1)=c.map vf:=by
 rw[<-h,BC];rfl
theorem Fi{l:List Nat}{n:Nat}(c:l.length=n)(x:Ix n):l.reverse.getD x.1 0∈l:=by
 rw[List.getD,qE (by rw[List.length_reverse];omega)];exact List.mem_reverse.1 (AW _)
section
variable {B F:Nat} {s:ByteArray} {L:List Nat} {la:Int} {w:World}
theorem find_any(H:Fd w B F s L la)(k:Nat)(d m over:Int)(an:d<=9223372036854775807):
 Calls prog 228 #[.pointer (some ⟨F,0,none⟩),.int .i64 k,.int .i64 d,.int .i64 m,.int .i64 over] w λe w'=>
  e=.returned (.agg #[.int .i64 (fnd s k m over (nr s L k d) (0,0)).1,.int .i64 (fnd s k m over (nr s L k d) (0,0)).2])/\Below w.heap.size w w':=by
 have HH:=qH H;have hN:=Jt H k d;have HC:=qH (λW' (hb:Below w.heap.size w W')=>zu (H.below hb) k d an);have a3:=qH (show ∀p,p∈nr s L k d->p<k/\k+3<=s.size/\3<=lng s p k from λp hp=>by
  have h1:=Ef hp;have h2:=mO h1;exact⟨h2.2.1,h2.2.2.2.1,pj h1⟩)
 unfold dJ at HC;generalize hl:nr s L k d=l at hN HC a3 ⊢;clear hl;obtain⟨n,hn⟩:∃n,l.length=n:=⟨_,rfl⟩
 rw[hn] at hN HC;obtain⟨vf,aa⟩:∃vf:Nat->Nat,(λi=>l.reverse.getD i 0)=vf:=⟨_,rfl⟩
 have a2:∀i,l.reverse.getD i 0=vf i:=λi=>congrFun aa i
 have HV:=qH (show ∀j,j<=n->(oZ n j).map vf=l.take j from λj hj=>by
  rw[<-hn,<-aa];exact se (by omega))
 have aj:=qH (show ∀x:Ix n,vf x.1∈l from λx=>by
  rw[<-a2 x.1];exact Fi hn x)
 obtain⟨ai,HN⟩:=qh2 a2 hn;clear hn aa a2;refine(callsIn_wide (n:=5)).1 ?_
 refine callsIn_of_wp_marks func228 rfl trivial ?_ rfl;simp only[ntmps228,AE,qC,AB,Nat.reduceAdd,Nat.reduceSub,Be,Bf,Bg,Bh,Ap,Ac];clear H;gi_wp2;obtain⟨W6,hW,ar,a7,r0,r1,r2,r3,r4,r5⟩:=six w (.cells #[.pointer (some ⟨F,0,none⟩)] 233) (.cells #[.int .i64 k] 3) (.cells #[.int .i64 m] 3) (.cells #[.int .i64 over] 3) (.cells #[.int .i64 0,.int .i64 0] 143) (.cells #[.int .i64 0,.int .i64 0] 143);rw[hW];clear hW;refine⟨trivial,?_⟩;refine(callsIn_wide.2 (HC.o _ a7)).mono ?_
 rintro e R ⟨A,c,rfl,hA,b7⟩;obtain⟨HA,B7,R0,R1,ak,R3,R4,R5,ag⟩:=qh9 hA b7 r0 r1 r2 r3 r4 r5 a7;clear hA b7 r0 r1 r2 r3 r4 r5 a7
 gi_wp2_with (refine⟨trivial,?_⟩;gi_at_call 265;refine(callsIn_wide.2 (zL _ _ _ _)).mono ?_;rintro e w' ⟨rfl,rfl⟩)
 have aq:=B7.o.size;have M:Below W6.heap.size W6 (R.alloc (.cells #[.slice A n c] 104)):=B7.o.alloc aq _;have ab:(R.alloc (.cells #[.slice A n c] 104)).heap.size=R.heap.size+1:=(by simp);have a1:(R.alloc (.cells #[.slice A n c] 104)).cell? ⟨R.heap.size,0,none⟩=some (.slice A n c):=one_cell (heap_alloc_new R _);have a0:0<n->∃b o,A=some ⟨b,o,none⟩/\b<(R.alloc (.cells #[.slice A n c] 104)).heap.size/\b≠w.heap.size+1+1+1+1+1/\∀i,i<n->(R.alloc (.cells #[.slice A n c] 104)).cell? ⟨b,o+i,none⟩=some (.int .i64 (vf i:Int)):=λhp=>by
  obtain⟨b,o,ax,e1,e2,e3⟩:=HA.o hp;have ay:=(qW.1 e2).1;refine⟨b,o,e1,by rw[ab];omega,λe=> ?_,λi hi=> ?_⟩
  · have q:=(B7.o.block (w.heap.size+5) (by omega)).trans R5.o
    have e':b=w.heap.size+5:=e;rw[e'] at e2;rw[e2] at q;injection q with q
    injection q with _ q _
    exact absurd q (by decide)
  · rw[cell_of_row _ _ _ _ _ _ (old_at _ e2)]
    rw[<-ai.o i];exact e3 i hi
 generalize au:R.alloc (.cells #[.slice A n c] 104)=I at M ab a1 a0 ⊢;have ah:=qbt ag M;have t0:I.cell? ⟨w.heap.size,0,none⟩=some (.pointer (some ⟨F,0,none⟩)):=(M.cell (p:=⟨w.heap.size,0,none⟩) (by simp;omega)).trans (one_cell R0.o);have t1:I.cell? ⟨w.heap.size+1,0,none⟩=some (.int .i64 k):=(M.cell (p:=⟨w.heap.size+1,0,none⟩) (by simp;omega)).trans (one_cell R1.o);have t2:I.cell? ⟨w.heap.size+1+1,0,none⟩=some (.int .i64 m):=(M.cell (p:=⟨w.heap.size+1+1,0,none⟩) (by simp;omega)).trans (one_cell ak.o);have t3:I.cell? ⟨w.heap.size+1+1+1,0,none⟩=some (.int .i64 over):=(M.cell (p:=⟨w.heap.size+1+1+1,0,none⟩) (by simp;omega)).trans (one_cell R3.o);have t4:R2 I 143 (w.heap.size+1+1+1+1) (.int .i64 0) (.int .i64 0):=(Jf R4.o).below M (by omega);have t5:R2 I 143 (w.heap.size+1+1+1+1+1) (.int .i64 0) (.int .i64 0):=(Jf R5.o).below M (by omega);obtain⟨T0,T1,T2,T3,T4⟩:=qh5 t0 t1 t2 t3 t4;have aB:w.heap.size+6<=I.heap.size:=(by omega);have ad:∀j,j<I.heap.size->j≠w.heap.size+1+1+1+1+1->¬Sx (w.heap.size+1+1+1+1+1) I.heap.size j:=λj h1 h2 g=>by
  rcases g with g|g
  · exact h2 g
  · omega
 have S:=qH ad
 have a5:=qH (show ∀W,Kept (Sx (w.heap.size+1+1+1+1+1) I.heap.size) I W->Below w.heap.size w W from λW O=>
  ah.o.trans (O.below (by omega) (λj hj=>by rcases hj with hj|hj<;>omega)))
 have aw:R.heap.size<I.heap.size:=(by omega);have aC:w.heap.size+6<=R.heap.size:=(by omega);clear t0 t1 t2 t3 t4 ad au ab ar
 refine wpIn_rangeFunc_ownG rfl (by omega) (gf:= 298) (lb:= #[.pointer (some ⟨R.heap.size,0,none⟩)]) rfl trivial (enters_of func298 (by kernel_rfl) rfl)
  (rD 4 R.heap.size (w.heap.size+1+1+1+1+1) I.heap.size n c A (λi=>(vf i:Int)) (by omega) hN I (by omega) (by omega) (by omega) a1 a0)
  (λh k=>keptSx_t h k) (λW l o o' hl h _ _=>keptSx_b W l o o' hl h) (Below.refl _ _) (λ_=>rfl)
  (Mid I (w.heap.size+1+1+1+1+1) I.heap.size s k m over vf n) (Out I (w.heap.size+1+1+1+1+1) I.heap.size s k m over vf n) (Mid.own (by omega)) (Out.own (by omega))
  ⟨⟨(0,0),t5,λu=>rfl⟩,Kept.refl _ _⟩
  (λx=> {tmps:= #[.pointer (some ⟨F,0,none⟩),.int .i64 k,.int .i64 d,.int .i64 m,.int .i64 over,.pointer (some ⟨w.heap.size,0,none⟩),.pointer (some ⟨w.heap.size+1,0,none⟩),undef,.pointer (some ⟨w.heap.size+1+1,0,none⟩),.pointer (some ⟨w.heap.size+1+1+1,0,none⟩),.pointer (some ⟨w.heap.size+1+1+1+1,0,none⟩),.pointer (some ⟨w.heap.size+1+1+1+1+1,0,none⟩),undef,.int .i64 (vf x.1:Int),undef,.pointer (some ⟨F,0,none⟩),.int .i64 k,.int .i64 d,.slice A n c,.func (.func 298) #[] #[.pointer (some ⟨R.heap.size,0,none⟩)],.int .i64 (x.1:Int),.int .i64 (vf x.1:Int),undef,undef,undef,undef,undef,undef,undef,undef,undef,undef,undef,undef,undef,undef,undef,undef,undef,undef,undef],defers:=[]}) ?assign ?body ?done ?stop
 case assign=>
  intro l x W K hK;unfold KH;gi_wp2;exact hK
 case body=>
  rintro l' V x W ⟨⟨mm,J,N⟩,O⟩ aA;obtain⟨ae,ap,af⟩:=a3.o _ (aj.o x);have Z:=qH (show ∀u,fnd s k m over ((V++[x]).map (λx=>vf x.1)++u) (0,0)=fnd s k m over (vf x.1::u) mm from λu=>by
   rw[Aw,qD];exact N _)
  generalize hp:vf x.1=p at ae af Z ⊢;have X:=qH (alike_any (HH.o.below (a5.o W O)) p k ae ap af);generalize hz:lng s p k=z at X;have HZ:=qH hz;have av:=(Er s p k).1;rw[hz] at av;obtain⟨y,hy⟩:∃y:Nat,k - p=y:=⟨_,rfl⟩
  have e1:(k:Int) - (p:Int)=(y:Int):=(by omega);have az:k<=1048576:=(by have:=HH.o.len;omega);have HY:=qH hy;have m0:=J.at0;have m1:=J.at1;have aD:=J.frozen 0;have aE:=J.frozen 1;have n0:=O.cell T0.o (S.o _ (by simp;omega) (by simp;omega));have n1:=O.cell T1.o (S.o _ (by simp;omega) (by simp));have n2:=O.cell T2.o (S.o _ (by simp;omega) (by simp));have n3:=O.cell T3.o (S.o _ (by simp;omega) (by simp));obtain⟨v,E⟩:=mm;simp only at m0 m1 J;obtain⟨mx,ao⟩:∃mx:Int,(if over<(v:Int) then(v:Int) else over)=mx:=⟨_,rfl⟩
  have a4:mx=max over (v:Int):=by
   rw[<-ao];by_cases c:over<(v:Int)
   · rw[A7 c];omega
   · rw[A0 c];omega
  obtain⟨ac,HK,HR⟩:=qh3 a4 O J;clear O J N hz hy hp a4 a0 a1 t5;by_cases q1:mx<(z:Int)
  · have HS:Hd (stp s k over (v,E) p=(z,y)):=qH (by
     have:=ac.o;unfold stp;rw[HZ.o,A7 ⟨by omega,by simp only;omega⟩,HY.o])
    by_cases q2:m<=(z:Int)
    · skip
      have Y:Hd (∀u,fnd s k m over ((V++[x]).map (λx=>vf x.1)++u) (0,0)=(z,y)):=qH λu=>by
       rw[Z.o u,va s k m over p u (v,E) (by rw[HZ.o];exact q2),HS.o]
      gi_wp2;refine⟨trivial,?_⟩;refine(CallsIn.inRound l' (callsIn_wide.2 X.o)).mono ?_;rintro e w' ⟨rfl,Q,rfl⟩;gi_wp2;exact⟨(((oI W Q).trans (KeepsOthers.setCell _ _ _)).trans (KeepsOthers.setCell _ _ _)).from _,⟨rfl,(z,y),(HR.o.drewN Q).put _ _,Y.o⟩,(((HK.o.drewN Q).setCell ⟨w.heap.size+1+1+1+1+1,0,none⟩ (.inl (.inl rfl)) _).setCell ⟨w.heap.size+1+1+1+1+1,1,none⟩ (.inl (.inl rfl)) _)⟩
    · skip
      have d2:decide (m<=(z:Int))=false:=qF q2;have Y:Hd (∀u,fnd s k m over ((V++[x]).map (λx=>vf x.1)++u) (0,0)=fnd s k m over u (z,y)):=qH λu=>by
       rw[Z.o u,EA s k m over p u (v,E) (by rw[HZ.o];exact q2),HS.o]
      gi_wp2;refine⟨trivial,?_⟩;refine(CallsIn.inRound l' (callsIn_wide.2 X.o)).mono ?_;rintro e w' ⟨rfl,Q,rfl⟩;gi_wp2;exact⟨(((oI W Q).trans (KeepsOthers.setCell _ _ _)).trans (KeepsOthers.setCell _ _ _)).from _,((((Kept.refl _ W).drewN Q).setCell ⟨w.heap.size+1+1+1+1+1,0,none⟩ (.inl (.inl rfl)) _).setCell ⟨w.heap.size+1+1+1+1+1,1,none⟩ (.inl (.inl rfl)) _),⟨(z,y),(HR.o.drewN Q).put _ _,Y.o⟩,(((HK.o.drewN Q).setCell ⟨w.heap.size+1+1+1+1+1,0,none⟩ (.inl (.inl rfl)) _).setCell ⟨w.heap.size+1+1+1+1+1,1,none⟩ (.inl (.inl rfl)) _)⟩
  · have HS:Hd (stp s k over (v,E) p=(v,E)):=qH (by
     have:=ac.o;unfold stp;rw[HZ.o,A0 (λq=>by have:=q.1;have:=q.2;simp only at this;omega)])
    by_cases q2:m<=(z:Int)
    · skip
      have Y:Hd (∀u,fnd s k m over ((V++[x]).map (λx=>vf x.1)++u) (0,0)=(v,E)):=qH λu=>by
       rw[Z.o u,va s k m over p u (v,E) (by rw[HZ.o];exact q2),HS.o]
      gi_wp2;refine⟨trivial,?_⟩;refine(CallsIn.inRound l' (callsIn_wide.2 X.o)).mono ?_;rintro e w' ⟨rfl,Q,rfl⟩;gi_wp2;exact⟨(oI W Q).from _,⟨rfl,(v,E),HR.o.drewN Q,Y.o⟩,(HK.o.drewN Q)⟩
    · skip
      have d2:decide (m<=(z:Int))=false:=qF q2;have Y:Hd (∀u,fnd s k m over ((V++[x]).map (λx=>vf x.1)++u) (0,0)=fnd s k m over u (v,E)):=qH λu=>by
       rw[Z.o u,EA s k m over p u (v,E) (by rw[HZ.o];exact q2),HS.o]
      gi_wp2;refine⟨trivial,?_⟩;refine(CallsIn.inRound l' (callsIn_wide.2 X.o)).mono ?_;rintro e w' ⟨rfl,Q,rfl⟩;gi_wp2;exact⟨(oI W Q).from _,((Kept.refl _ W).drewN Q),⟨(v,E),HR.o.drewN Q,Y.o⟩,(HK.o.drewN Q)⟩
 case done=>
  rintro D ys W hD hS ⟨⟨mm,J,N⟩,O⟩ hK
  have Y:Hd (fnd s k m over l (0,0)=mm):=qH (by
   have h1:=N [];rw[Az,nu hS,HV.o n qR,Aj (by rw[HN.o];exact qR)] at h1;exact h1)
  have m0:=J.at0;have m1:=J.at1;have U:=T4.o.kept O (S.o _ (by omega) (by omega));have g0:=U.at0;have g1:=U.at1;have al:=U.frozen 0;have am:=U.frozen 1;obtain⟨v,E⟩:=mm;simp only at m0 m1 J;have HP:=qH (U.put (.int .i64 v) (.int .i64 E));have HB:=qH (a5.o W O);have a6:=qH hK;clear hS N O J U a0 a1 t5 hK;gi_wp2;have C:=(((KeepsOthers.setCell W ⟨w.heap.size+1+1+1+1,0,none⟩ (.int .i64 v)).trans (KeepsOthers.setCell _ ⟨w.heap.size+1+1+1+1,1,none⟩ (.int .i64 E)))).same D _ a6.o rfl;refine⟨by simp,.inl ⟨_,_,rfl,run_takeDeferred C,?_⟩⟩;have a8:=cell_kept HP.o.at0 (grownBy_putObj' _ D (.deferred none)) (λr e=>by cases e;exact⟨_,C,rfl⟩);have a9:=cell_kept HP.o.at1 (grownBy_putObj' _ D (.deferred none)) (λr e=>by cases e;exact⟨_,C,rfl⟩);refine⟨.agg #[.int .i64 v,.int .i64 E],?_,by rw[Y.o],((HB.o.setCell (p:=⟨w.heap.size+1+1+1+1,0,none⟩) (by simp;omega) _).setCell (p:=⟨w.heap.size+1+1+1+1,1,none⟩) (by simp;omega) _).trans (belowK_b (w:=w) qR _ D _ _ (by omega) C rfl rfl)⟩;simp[results,f228,go_sem,a8,a9]
 case stop=>
  rintro D c V W hD ⟨j,hj,hS⟩ ⟨⟨rfl,mm,J,N⟩,O⟩ hK
  have Y:Hd (fnd s k m over l (0,0)=mm):=qH (by
   have h1:=N (l.drop j);rw[nu hS,HV.o j hj,Bb] at h1;exact h1)
  have m0:=J.at0;have m1:=J.at1;have U:=T4.o.kept O (S.o _ (by omega) (by omega));have g0:=U.at0;have g1:=U.at1;have al:=U.frozen 0;have am:=U.frozen 1;obtain⟨v,E⟩:=mm;simp only at m0 m1 J;have HP:=qH (U.put (.int .i64 v) (.int .i64 E));have HB:=qH (a5.o W O);have a6:=qH hK;clear hS N O J U a0 a1 t5 hK;gi_wp2;have C:=(((KeepsOthers.setCell W ⟨w.heap.size+1+1+1+1,0,none⟩ (.int .i64 v)).trans (KeepsOthers.setCell _ ⟨w.heap.size+1+1+1+1,1,none⟩ (.int .i64 E)))).same D _ a6.o rfl;refine⟨by simp,.inl ⟨_,_,rfl,run_takeDeferred C,?_⟩⟩;have a8:=cell_kept HP.o.at0 (grownBy_putObj' _ D (.deferred none)) (λr e=>by cases e;exact⟨_,C,rfl⟩);have a9:=cell_kept HP.o.at1 (grownBy_putObj' _ D (.deferred none)) (λr e=>by cases e;exact⟨_,C,rfl⟩);refine⟨.agg #[.int .i64 v,.int .i64 E],?_,by rw[Y.o],((HB.o.setCell (p:=⟨w.heap.size+1+1+1+1,0,none⟩) (by simp;omega) _).setCell (p:=⟨w.heap.size+1+1+1+1,1,none⟩) (by simp;omega) _).trans (belowK_b (w:=w) qR _ D _ _ (by omega) C rfl rfl)⟩;simp[results,f228,go_sem,a8,a9]
end
end V.Px
namespace V.Px
open Go Go.RowKit M
theorem _root_.Go.Proofs.YthgilhebnlglkaaGreatDoor.V.Tk.ok_of{l n d:Int}(c:0<=l/\l<=255)(f:0<=n/\n<=1000000)(h:0<=d/\d<=1000000):Tk.ok ⟨l,n,d⟩:=⟨c,⟨by show _<=n;omega,by show n<=_;omega⟩,⟨by show _<=d;omega,by show d<=_;omega⟩⟩
def clt:List Tk->List Value
 |[]=> []
 |t::l=> .int .u8 t.l::.int .i64 t.n::.int .i64 t.d::clt l
theorem il:∀l,(clt l).length=l.length*3
 |[]=>rfl
 |t::l=>by simp only[clt,qC];rw[il l];omega
theorem EI:∀ (l:List Tk) (i:Nat) (t:Tk),l[i]? =some t->(clt l)[i*3]? =some (.int .u8 t.l)/\(clt l)[i*3+1]? =some (.int .i64 t.n)/\(clt l)[i*3+2]? =some (.int .i64 t.d)
 |[],i,t,h=>by simp at h
 |a::l,0,t,h=>by simp at h;subst h;simp[clt]
 |a::l,i+1,t,h=>by
  rw[C0] at h;obtain⟨c,f,j⟩:=EI l i t h;simp only[clt];refine⟨?_,?_,?_⟩
  · rw[show(i+1)*3=i*3+1+1+1 by omega];simpa using c
  · rw[show(i+1)*3+1=i*3+1+1+1+1 by omega];simpa using f
  · rw[show(i+1)*3+2=i*3+2+1+1+1 by omega];simpa using j
theorem IsTks.of_own{w:World}{B n:Nat}{v:Value}{L:List Tk}(h:w.ownsRow B 139 3 v n (clt L))(d:∀c∈L,c.ok)(m:n<=maxLen):∃A c,v=.slice A n c/\IsTks w A n L:=by
 have l:L.length=n:=(by have:=h.1;rw[il] at this;omega);have y:=λg (z:v.ownBlock=some g)=>h.cells z
 rcases h.2 with⟨rfl,rfl⟩|⟨g,f,o,rfl,_,C,_⟩
 · exact⟨none,0,rfl,l,m,d,.inl rfl⟩
 · refine⟨_,f,rfl,l,m,d,.inr ⟨g,0,rfl,(qW.1 C).1,λi t E=> ?_⟩⟩
   obtain⟨p,r,x⟩:=EI L i t E;have k:=λj u I=>y g rfl j u I
   simp only[cadd_at] at k;exact⟨k _ _ p,k _ _ r,k _ _ x⟩
end V.Px
namespace V.Px
structure Lv where
 d:Nat
 n:Nat
 z:Nat
def mt(s:ByteArray)(r:Lv)(k:Nat)(over:Int):Nat×Nat:=fnd s k r.n over (nr s (List.range k) k r.d) (0,0)
structure Mt(s:ByteArray)(k:Nat)(m:Nat×Nat):Prop where
 len:3<=m.1/\m.1<=258
 fits:k+m.1<=s.size
 dist:1<=m.2/\m.2<=32768
 back:m.2<=k
 same:∀i,i<m.1->byt s (k - m.2+i)=byt s (k+i)
theorem mt_is{s:ByteArray}{r:Lv}{k:Nat}{over:Int}(h:(mt s r k over).1≠0):Mt s k (mt s r k over)/\over<((mt s r k over).1:Int):=by
 unfold mt at h ⊢;rcases uX s k r.n over (nr s (List.range k) k r.d) (0,0) with e|⟨p,hp,e,ho⟩
 · rw[e] at h;exact absurd rfl h
 · have c:=Ef hp
   obtain⟨_,m,o,t,_⟩:=mO c;have f:=pj c;have j:=Er s p k;have l:=(oF s p k).same;rw[e];refine⟨⟨⟨f,j.1⟩,by simp only;omega,⟨by simp only;omega,by simp only;omega⟩,by simp only;omega,λi hi=> ?_⟩,ho⟩;simp only at hi ⊢;rw[show k - (k - p)+i=p+i by omega];exact l i hi
def lit(s:ByteArray)(k:Nat):Tk:=⟨byt s k,0,0⟩
def mtk(m:Nat×Nat):Tk:=⟨0,m.1,m.2⟩
def G(s:ByteArray)(r:Lv)(k:Nat)(m:Nat×Nat):List Tk:=
 if hk:k<s.size then
  if hm:m.1=0 then
   if hq:(mt s r k 2).1=0 then lit s k::G s r (k+1) (0,0) else G s r k (mt s r k 2)
  else if m.1<r.z/\k+1<s.size then
   if(mt s r (k+1) m.1).1=0 then mtk m::G s r (k+m.1) (0,0) else lit s k::G s r (k+1) (mt s r (k+1) m.1)
  else mtk m::G s r (k+m.1) (0,0)
 else[]
termination_by (s.size - k,if m.1=0 then 1 else 0)
decreasing_by
 · apply Prod.Lex.left;omega
 · rw[A7 hm,A0 hq];apply Prod.Lex.right;omega
 · apply Prod.Lex.left;omega
 · apply Prod.Lex.left;omega
 · apply Prod.Lex.left;omega
section
variable {s:ByteArray} {r:Lv} {k:Nat} {m:Nat×Nat}
theorem G_end(h:s.size<=k):G s r k m=[]:=by rw[G,Bz (by omega)]
theorem G_lit(h:k<s.size)(c:m.1=0)(d:(mt s r k 2).1=0):G s r k m=lit s k::G s r (k+1) (0,0):=by rw[G,Bl h,Bl c,Bl d]
theorem G_look(h:k<s.size)(c:m.1=0)(d:(mt s r k 2).1≠0):G s r k m=G s r k (mt s r k 2):=by rw[G,Bl h,Bl c,Bz d]
theorem G_lazy(h:k<s.size)(c:m.1≠0)(f:m.1<r.z/\k+1<s.size)(d:(mt s r (k+1) m.1).1≠0):G s r k m=lit s k::G s r (k+1) (mt s r (k+1) m.1):=by
 rw[G,Bl h,Bz c,A7 f,A0 d]
theorem G_stay(h:k<s.size)(c:m.1≠0)(f:m.1<r.z/\k+1<s.size)(d:(mt s r (k+1) m.1).1=0):G s r k m=mtk m::G s r (k+m.1) (0,0):=by
 rw[G,Bl h,Bz c,A7 f,A7 d]
theorem G_take(h:k<s.size)(c:m.1≠0)(d:¬(m.1<r.z/\k+1<s.size)):G s r k m=mtk m::G s r (k+m.1) (0,0):=by
 rw[G,Bl h,Bz c,A0 d]
end
abbrev bt(s:ByteArray):List UInt8:=s.data.toList
theorem iA(s:ByteArray):(bt s).length=s.size:=As
theorem vW(s:ByteArray)(i:Nat)(h:i<s.size):(bt s)[i]? =some (UInt8.ofNat (byt s i)):=by
 unfold byt;rw[qE (by rw[iA];exact h),List.getD,qE (by rw[iA];exact h)];simp
theorem jN(s:ByteArray)(k:Nat)(h:k<s.size):(bt s).take k++[UInt8.ofNat (byt s k)]=(bt s).take (k+1):=by
 rw[Bd,vW s k h];rfl
theorem kI{s:ByteArray}{k:Nat}{m:Nat×Nat}(h:Mt s k m):∀i,i<=m.1->grow ((bt s).take k) m.2 i=(bt s).take (k+i)
 |0,_=>rfl
 |i+1,hi=>by
  have hf:=h.fits;have d:=h.back;have f:=h.dist;have c:((bt s).take (k+i)).length=k+i:=(by rw[Af,iA];omega);have e:((bt s).take (k+i)).getD (k+i - m.2) 0=UInt8.ofNat (byt s (k+i)):=by
   rw[List.getD,AD,A7 (by omega),vW s _ (by omega)];have:=h.same i (by omega);rw[show k - m.2+i=k+i - m.2 by omega] at this;rw[<-this];rfl
  simp only[grow,kI h i (by omega),c,e];rw[show k+(i+1)=k+i+1 by omega];exact jN s (k+i) (by omega)
theorem lit_byte(s:ByteArray)(k:Nat):isB (lit s k)=true:=isB_iff.2 ⟨rfl,rfl⟩
theorem mtk_match{s:ByteArray}{k:Nat}{m:Nat×Nat}(h:Mt s k m):isM (mtk m)=true:=by
 have:=h.len;have:=h.dist;exact isM_iff.2 ⟨rfl,by show(3:Int)<=(m.1:Int);omega,by show(m.1:Int)<=258;omega,by show(1:Int)<=(m.2:Int);omega,by show(m.2:Int)<=32768;omega⟩
theorem nO{s:ByteArray}{k c:Nat}(h:k<s.size)(f:s.size - c<=1048576)(i:c<=k):step c ((bt s).take k) (lit s k)=(0,(bt s).take (k+1)):=by
 have d:((bt s).take k).length=k:=(by rw[Af,iA];omega);rw[step_byte (by rw[d];show ¬(k:Int)<0;omega) (by rw[d,szo_byte (lit_byte s k)];omega) (lit_byte s k)];rw[<-jN s k h];rfl
theorem nN{s:ByteArray}{k c:Nat}{m:Nat×Nat}(h:Mt s k m)(l:s.size - c<=1048576)(p:c<=k):step c ((bt s).take k) (mtk m)=(0,(bt s).take (k+m.1)):=by
 have hf:=h.fits;have o:=h.back;have i:((bt s).take k).length=k:=(by rw[Af,iA];omega);have j:(mtk m).n.toNat=m.1:=(by show((m.1:Int)).toNat=m.1;omega);have f:(mtk m).d.toNat=m.2:=(by show((m.2:Int)).toNat=m.2;omega);rw[step_match (by rw[i];show ¬(k:Int)<(m.2:Int);omega) (by rw[i,szo_match (mtk_match h),j];omega) (mtk_match h),j,f,kI h m.1 qR]
theorem run_G(s:ByteArray)(r:Lv)(h:Nat)(f:s.size - h<=1048576)(k:Nat)(m:Nat×Nat)(c:h<=k)(j:k<=s.size)(i:m.1≠0->Mt s k m):run h ((bt s).take k) (G s r k m)=(0,bt s):=by
 induction k,m using G.induct s r with
 |case1 k m hlt hz hq ih=>
  rw[G_lit hlt hz hq];have hs:=nO hlt f c;rw[run_go (by rw[hs]),hs];exact ih (by omega) (by omega) (λq=>absurd rfl q)
 |case2 k m hlt hz hq ih=>
  rw[G_look hlt hz hq];exact ih c j (λq=>(mt_is q).1)
 |case3 k m hlt hz hc hq ih=>
  rw[G_stay hlt hz hc hq];have d:=i hz;have hs:=nN d f c;rw[run_go (by rw[hs]),hs];exact ih (by omega) d.fits (λq=>absurd rfl q)
 |case4 k m hlt hz hc hq ih=>
  rw[G_lazy hlt hz hc hq];have hs:=nO hlt f c;rw[run_go (by rw[hs]),hs];exact ih (by omega) (by omega) (λq=>(mt_is q).1)
 |case5 k m hlt hz hc ih=>
  rw[G_take hlt hz hc];have d:=i hz;have hs:=nN d f c;rw[run_go (by rw[hs]),hs];exact ih (by omega) d.fits (λq=>absurd rfl q)
 |case6 k m hlt=>
  rw[G_end (by omega),Aj (by rw[iA];omega)];rfl
theorem G_may(s:ByteArray)(r:Lv)(k:Nat)(m:Nat×Nat)(j:m.1≠0->Mt s k m):∀t∈G s r k m,may t=true/\(0<=t.l/\t.l<=255)/\(0<=t.n/\t.n<=258)/\(0<=t.d/\t.d<=32768):=by
 have f:∀k,may (lit s k)=true/\(0<=(lit s k).l/\(lit s k).l<=255)/\(0<=(lit s k).n/\(lit s k).n<=258)/\(0<=(lit s k).d/\(lit s k).d<=32768):=λk=>by
  have:=cU s k;refine⟨by unfold may;rw[lit_byte];rfl,⟨?_,?_⟩,⟨CL 0,by show(0:Int)<=258;decide⟩,⟨CL 0,by show(0:Int)<=32768;decide⟩⟩
  · show(0:Int)<=(byt s k:Int);omega
  · show(byt s k:Int)<=255;omega
 have i:∀ {k m},Mt s k m->may (mtk m)=true/\(0<=(mtk m).l/\(mtk m).l<=255)/\(0<=(mtk m).n/\(mtk m).n<=258)/\(0<=(mtk m).d/\(mtk m).d<=32768):=λ{k m} h=>by
  have o:=h.len;have p:=h.dist;refine⟨by unfold may;rw[mtk_match h,Bool.or_true],⟨CL 0,by show(0:Int)<=255;decide⟩,⟨?_,?_⟩,⟨?_,?_⟩⟩
  · show(0:Int)<=(m.1:Int);omega
  · show(m.1:Int)<=258;omega
  · show(0:Int)<=(m.2:Int);omega
  · show(m.2:Int)<=32768;omega
 induction k,m using G.induct s r with
 |case1 k m hlt hz hq ih=>
  rw[G_lit hlt hz hq];intro t c;rcases Ab.1 c with e|e
  · rw[e];exact f k
  · exact ih (λq=>absurd rfl q) t e
 |case2 k m hlt hz hq ih=>
  rw[G_look hlt hz hq];exact ih (λq=>(mt_is q).1)
 |case3 k m hlt hz hc hq ih=>
  rw[G_stay hlt hz hc hq];intro t c;rcases Ab.1 c with e|e
  · rw[e];exact i (j hz)
  · exact ih (λq=>absurd rfl q) t e
 |case4 k m hlt hz hc hq ih=>
  rw[G_lazy hlt hz hc hq];intro t c;rcases Ab.1 c with e|e
  · rw[e];exact f k
  · exact ih (λq=>(mt_is q).1) t e
 |case5 k m hlt hz hc ih=>
  rw[G_take hlt hz hc];intro t c;rcases Ab.1 c with e|e
  · rw[e];exact i (j hz)
  · exact ih (λq=>absurd rfl q) t e
 |case6 k m hlt=>
  rw[G_end (by omega)];intro t c;cases c
theorem G_len(s:ByteArray)(r:Lv)(k:Nat)(m:Nat×Nat)(c:m.1≠0->Mt s k m):(G s r k m).length<=s.size - k:=by
 induction k,m using G.induct s r with
 |case1 k m hlt hz hq ih=>rw[G_lit hlt hz hq,qC];have:=ih (λq=>absurd rfl q);omega
 |case2 k m hlt hz hq ih=>rw[G_look hlt hz hq];exact ih (λq=>(mt_is q).1)
 |case3 k m hlt hz hc hq ih=>rw[G_stay hlt hz hc hq,qC];have:=ih (λq=>absurd rfl q);omega
 |case4 k m hlt hz hc hq ih=>rw[G_lazy hlt hz hc hq,qC];have:=ih (λq=>(mt_is q).1);omega
 |case5 k m hlt hz hc ih=>rw[G_take hlt hz hc,qC];have:=ih (λq=>absurd rfl q);omega
 |case6 k m hlt=>rw[G_end (by omega)];exact qZ
namespace Q
open Go Go.RowKit M
theorem cadd_at(b o j:Nat):(⟨b,o,none⟩:Addr).add j=⟨b,o+j,none⟩:=by
 unfold Addr.add
 split
 · rename_i h;subst h;rfl
 · rfl
theorem info_of{e:TypeId}{z:Value}{size bytes:Nat}(hi:(prog.info? e).map (λi=>(i.zero,i.size,i.bytes))=some (some z,size,bytes)):∃i,prog.info? e=some i/\i.zero=some z/\i.size=size/\i.bytes=bytes:=by
 cases c: prog.info? e with
 |none=>rw[c] at hi;cases hi
 |some i=>rw[c] at hi;simp at hi;exact⟨i,rfl,hi.1,hi.2.1,hi.2.2⟩
section
variable {w w':World} {T:TypeId} {g:Nat} {x y z:Value}
end
section
variable {w w':World} {T:TypeId} {g:Nat} {x y:Value}
end
section
variable {w w':World} {B F b k:Nat} {s:ByteArray}
end
end Q
end V.Px
namespace V.Px
namespace Q
open Go Go.RowKit M
def lvs:List Lv:=[⟨0,0,0⟩,⟨4,8,0⟩,⟨8,16,0⟩,⟨16,32,0⟩,⟨8,16,4⟩,⟨16,32,16⟩,⟨64,128,16⟩,⟨128,128,32⟩,⟨512,258,128⟩,⟨2048,258,258⟩]
def lv(i:Nat):Lv:=lvs.getD i ⟨0,0,0⟩
end Q
end V.Px
namespace V.Px
namespace Q
open Go Go.RowKit M
def clq:List Tk->List Value
 |[]=> []
 |t::l=> .int .u8 t.l::.int .i64 t.n::.int .i64 t.d::clq l
theorem im:∀l r,clq (l++r)=clq l++clq r
 |[],_=>rfl
 |t::l,r=>by simp only[Ac,clq];rw[im l r]
def Owq(B:Nat)(w:World)(v:Value)(L:List Tk):Prop:=w.ownsRow B 139 3 v L.length (clq L)
section
variable {B:Nat} {w w':World} {v:Value} {L:List Tk}
theorem Owq.nil(B:Nat)(w:World):Owq B w (.slice none 0 0) []:=World.ownsRow_nil w B _ 3
theorem Owq.alloc(h:Owq B w v L)(o:Obj):Owq B (w.alloc o) v L:=World.ownsRow.alloc h o
theorem Owq.at(h:Owq B w v L)(e:∀g,v.ownBlock=some g->w'.heap[g]? =w.heap[g]?):Owq B w' v L:=aM h e
theorem Owq.lt(h:Owq B w v L):∀g,v.ownBlock=some g->B<=g/\g<w.heap.size:=World.ownsRow.lt h
end
theorem Fv:(prog.info? 139).map (λi=>(i.zero,i.size,i.bytes))=some (some (.agg #[.int .u8 0,.int .i64 0,.int .i64 0]),3,24):=by kernel_rfl
theorem wpList_tq{A:Array Oper}{p:List Oper}{o:Oper}{a:Act}{w:World}{Q:Exit->Act->World->Prop}(J:o.guard=none)(s x:Operand)
 (X:o.op=.call {callee:=.builtin .append,args:= #[s,x],argTypes:= #[92,92]}) (B:Nat) (v:Value) (L:List Tk) (hs:a.eval s=v) (h:Owq B w v L) (b c:Nat) (l n d:Int)
 (Y:a.eval x=.slice (some ⟨b,0,none⟩) 1 c) (I:w.cell? ⟨b,0,none⟩=some (.int .u8 l)/\w.cell? ⟨b,1,none⟩=some (.int .i64 n)/\w.cell? ⟨b,2,none⟩=some (.int .i64 d)) (hL:L.length<=3000000) (M:B<=w.heap.size)
 (V:∀C w',Owq B w' C (L++[⟨l,n,d⟩])->w.grownBy w' v.ownBlock->Below B w w'->wpList prog A Q p (a.put o.dst C) w'):wpList prog A Q (o::p) a w:=
 wpList_plain J λK E=>by
  obtain⟨i,O,R,S,U⟩:=info_of Fv
  obtain⟨C,w',Z,r2,N,_⟩:=run_append_own (P:= prog) w B 92 o.type 139 i _ 3 24 underlying92 O R S U rfl (by decide) v L.length (clq L) h ⟨b,0,none⟩ 1 c (clq [⟨l,n,d⟩]) rfl
   (λj u f=>by
    rw[cadd_at,Aa]
    match j,f with
    |0,f=>simp[clq] at f;subst f;exact I.1
    |1,f=>simp[clq] at f;subst f;exact I.2.1
    |2,f=>simp[clq] at f;subst f;exact I.2.2
    |j+3,f=>simp[clq] at f) (by intro u f;simp[clq] at f;rcases f with rfl|rfl|rfl<;>rfl) (by unfold maxLen;omega) (by omega) M
  unfold Oper.wp execOp;simp only[X,resolve,invoke,builtin,Sem.run_bind,Sem.run_pure,Result.andThen_ok,AV,Al,Av,hs,Y,Z];refine E _ _ (V C w' ?_ N ((Below.refl _ w).grown N M (λk W=>(World.ownsRow.lt h k W).1)));unfold Owq;rw[qA,im];exact r2
def lits(s:ByteArray)(j:Nat):List Tk:=(List.range j).map (lit s)
theorem lits_length(s:ByteArray)(j:Nat):(lits s j).length=j:=by simp[lits]
end Q
end V.Px
namespace V.Px
namespace Q
open Go Go.RowKit M
theorem Owq.ty{B:Nat}{w:World}{v:Value}{L:List Tk}(h:Owq B w v L):∀g,v.ownBlock=some g->∃cs,w.heap[g]? =some (.cells cs 139 (0,0)):=by
 intro g d;rcases h.2 with⟨rfl,_⟩|⟨g',f,c,rfl,_,i,_⟩
 · simp[Value.ownBlock] at d
 · simp[Value.ownBlock] at d
   subst d;exact⟨c,i⟩
theorem ty_ne{w:World}{g f:Nat}{cs c:Array Value}{T i:TypeId}{z l:Nat×Nat}(h:w.heap[g]? =some (.cells cs T z))(j:w.heap[f]? =some (.cells c i l))(d:T≠i):g≠f:=λe=>by
 subst e;rw[h] at j;injection j with e1
 injection e1 with _ e2 _
 exact d e2
section
variable {W wr w':World} {F b Rr k:Nat} {s:ByteArray} {r:Lv} {v v':Value} {L L':List Tk}
end
theorem lv_le(i:Nat)(hi:i<=9):(lv i).d<=1000000/\(lv i).n<=258/\(lv i).z<=258:=by
 have c:i=0\/i=1\/i=2\/i=3\/i=4\/i=5\/i=6\/i=7\/i=8\/i=9:=(by omega);rcases c with rfl|rfl|rfl|rfl|rfl|rfl|rfl|rfl|rfl|rfl<;>decide
