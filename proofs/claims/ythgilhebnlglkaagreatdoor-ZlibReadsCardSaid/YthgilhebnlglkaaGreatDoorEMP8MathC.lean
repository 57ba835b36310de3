import Derived.Test.YthgilhebnlglkaaGreatDoorEP8Cpy
import Derived.Test.YthgilhebnlglkaaGreatDoorEMRns
import Derived.Lib.ConvBytes
import Derived.RangeFuncOwn
set_option linter.all false
set_option maxHeartbeats 8000000
set_option maxRecDepth 1000000
namespace Go.Proofs.YthgilhebnlglkaaGreatDoor.V.Px
def byt(s:ByteArray)(i:Nat):Nat:=(s.data.toList.getD i 0).toNat
def lg(s:ByteArray)(p k:Nat):Nat->Nat->Nat
 |0,n=>n
 |f+1,n=>if byt s (p+n)=byt s (k+n) then lg s p k f (n+1) else n
def most(s:ByteArray)(k:Nat):Nat:=min 258 (s.size - k)
def lng(s:ByteArray)(p k:Nat):Nat:=lg s p k (most s k) 0
structure zjA(s:ByteArray)(p k n:Nat):Prop where
 le:n<=most s k
 same:∀i,i<n->byt s (p+i)=byt s (k+i)
 stop:n=most s k\/byt s (p+n)≠byt s (k+n)
theorem zj0(s:ByteArray)(p k:Nat):∀f n,(∀i,i<n->byt s (p+i)=byt s (k+i))->f+n=most s k->zjA s p k (lg s p k f n)
 |0,n,h,e=>⟨by unfold lg;omega,h,.inl (by unfold lg;omega)⟩
 |f+1,n,h,e=>by
  unfold lg;by_cases c:byt s (p+n)=byt s (k+n)
  · rw[if_pos c]
    refine zj0 s p k f (n+1) (λi hi=> ?_) (by omega);by_cases g:i=n
    · subst g;exact c
    · exact h i (by omega)
  · rw[if_neg c]
    exact⟨by omega,h,.inr c⟩
theorem zba(s:ByteArray)(p k:Nat):zjA s p k (lng s p k):=zj0 s p k _ 0 (λi hi=>by omega) (by omega)
theorem ziW(s:ByteArray)(p k:Nat):lng s p k<=258/\lng s p k<=s.size - k:=by
 have:=(zba s p k).le;unfold most at this;omega
def at3(s:ByteArray)(p a b c:Nat):Bool:=decide (p+3<=s.size)&& (byt s p==a&& (byt s (p+1)==b&&byt s (p+2)==c))
theorem zhR{s:ByteArray}{p a b c:Nat}:at3 s p a b c=true↔p+3<=s.size/\byt s p=a/\byt s (p+1)=b/\byt s (p+2)=c:=by
 unfold at3;simp
def grp(s:ByteArray)(L:List Nat)(a b c:Nat):List Nat:=L.filter λp=>at3 s p a b c
def cnd(s:ByteArray)(L:List Nat)(k:Nat):List Nat:=
 if k+3<=s.size then(grp s L (byt s k) (byt s (k+1)) (byt s (k+2))).filter (λp=>decide (p<k)&&decide (k<=p+32768)) else[]
def nr(s:ByteArray)(L:List Nat)(k:Nat)(d:Int):List Nat:=(cnd s L k).reverse.take d.toNat
theorem zc4{s:ByteArray}{L:List Nat}{k p:Nat}(h:p∈cnd s L k):p∈L/\p<k/\k<=p+32768/\k+3<=s.size/\byt s p=byt s k/\byt s (p+1)=byt s (k+1)/\byt s (p+2)=byt s (k+2):=by
 unfold cnd at h;by_cases c:k+3<=s.size
 · rw[if_pos c] at h
   obtain⟨h1,h2⟩:=List.mem_filter.1 h;unfold grp at h1;obtain⟨h3,h4⟩:=List.mem_filter.1 h1;have h5:=zhR.1 h4;simp at h2;exact⟨h3,h2.1,h2.2,c,h5.2⟩
 · rw[if_neg c] at h;cases h
theorem ziK{s:ByteArray}{L:List Nat}{k p:Nat}{d:Int}(h:p∈nr s L k d):p∈cnd s L k:=by
 unfold nr at h;exact List.mem_reverse.1 (List.mem_of_mem_take h)
theorem zez{s:ByteArray}{L:List Nat}{k p:Nat}(h:p∈cnd s L k):3<=lng s p k:=by
 obtain⟨_,_,_,h1,h2,h3,h4⟩:=zc4 h;have h5:=zba s p k;rcases h5.stop with e|e
 · rw[e];unfold most;omega
 · apply Classical.byContradiction
   intro g;have:lng s p k=0\/lng s p k=1\/lng s p k=2:=(by omega);rcases this with g|g|g<;>rw[g] at e<;>exact e (by assumption)
def stp(s:ByteArray)(k:Nat)(over:Int)(m:Nat×Nat)(p:Nat):Nat×Nat:=if over<(lng s p k:Int)/\m.1<lng s p k then(lng s p k,k - p) else m
def fnd(s:ByteArray)(k:Nat)(nice over:Int):List Nat->Nat×Nat->Nat×Nat
 |[],m=>m
 |p::r,m=>if nice<=(lng s p k:Int) then stp s k over m p else fnd s k nice over r (stp s k over m p)
theorem zbE(s:ByteArray)(k:Nat)(nice over:Int):∀ (l:List Nat) (m:Nat×Nat),fnd s k nice over l m=m\/∃p,p∈l/\fnd s k nice over l m=(lng s p k,k - p)/\over<(lng s p k:Int)
 |[],m=> .inl rfl
 |p::r,m=>by
  have hs:stp s k over m p=m\/(stp s k over m p=(lng s p k,k - p)/\over<(lng s p k:Int)):=by
   unfold stp;by_cases c:over<(lng s p k:Int)/\m.1<lng s p k
   · rw[if_pos c];exact .inr ⟨rfl,c.1⟩
   · rw[if_neg c];exact .inl rfl
  unfold fnd;by_cases c:nice<=(lng s p k:Int)
  · rw[if_pos c]
    rcases hs with h|⟨h,h'⟩
    · exact .inl h
    · exact .inr ⟨p,by simp,h,h'⟩
  · rw[if_neg c]
    rcases zbE s k nice over r (stp s k over m p) with h|⟨q,hq,h,h'⟩
    · rw[h]
      rcases hs with g|⟨g,g'⟩
      · exact .inl g
      · exact .inr ⟨p,by simp,g,g'⟩
    · exact .inr ⟨q,by simp[hq],h,h'⟩
structure Lv where
 d:Nat
 n:Nat
 z:Nat
def mt(s:ByteArray)(r:Lv)(k:Nat)(over:Int):Nat×Nat:=fnd s k r.n over (nr s (List.range k) k r.d) (0,0)
structure Mt(s:ByteArray)(k:Nat)(m:Nat×Nat):Prop where
 len:3<=m.1/\m.1<=258
 fits:k+m.1<=s.size
 dist:1<=m.2/\m.2<=32768
 back:m.2<=k
 same:∀i,i<m.1->byt s (k - m.2+i)=byt s (k+i)
theorem mt_is{s:ByteArray}{r:Lv}{k:Nat}{over:Int}(h:(mt s r k over).1≠0):Mt s k (mt s r k over)/\over<((mt s r k over).1:Int):=by
 unfold mt at h ⊢;rcases zbE s k r.n over (nr s (List.range k) k r.d) (0,0) with e|⟨p,hp,e,ho⟩
 · rw[e] at h;exact absurd rfl h
 · have hc:=ziK hp
   obtain⟨_,h1,h2,h3,_⟩:=zc4 hc;have h4:=zez hc;have h5:=ziW s p k;have h6:=(zba s p k).same;rw[e];refine⟨⟨⟨h4,h5.1⟩,by simp only;omega,⟨by simp only;omega,by simp only;omega⟩,by simp only;omega,λi hi=> ?_⟩,ho⟩;simp only at hi ⊢;rw[show k - (k - p)+i=p+i by omega];exact h6 i hi
def lit(s:ByteArray)(k:Nat):Tk:=⟨byt s k,0,0⟩
def mtk(m:Nat×Nat):Tk:=⟨0,m.1,m.2⟩
def G(s:ByteArray)(r:Lv)(k:Nat)(m:Nat×Nat):List Tk:=
 if hk:k<s.size then
  if hm:m.1=0 then
   if hq:(mt s r k 2).1=0 then lit s k::G s r (k+1) (0,0) else G s r k (mt s r k 2)
  else if m.1<r.z/\k+1<s.size then
   if(mt s r (k+1) m.1).1=0 then mtk m::G s r (k+m.1) (0,0) else lit s k::G s r (k+1) (mt s r (k+1) m.1)
  else mtk m::G s r (k+m.1) (0,0)
 else[]
termination_by (s.size - k,if m.1=0 then 1 else 0)
decreasing_by
 · apply Prod.Lex.left;omega
 · rw[if_pos hm,if_neg hq];apply Prod.Lex.right;omega
 · apply Prod.Lex.left;omega
 · apply Prod.Lex.left;omega
 · apply Prod.Lex.left;omega
section
variable {s:ByteArray} {r:Lv} {k:Nat} {m:Nat×Nat}
theorem G_end(h:s.size<=k):G s r k m=[]:=by rw[G,dif_neg (by omega)]
theorem G_lit(h:k<s.size)(hm:m.1=0)(hq:(mt s r k 2).1=0):G s r k m=lit s k::G s r (k+1) (0,0):=by rw[G,dif_pos h,dif_pos hm,dif_pos hq]
theorem G_look(h:k<s.size)(hm:m.1=0)(hq:(mt s r k 2).1≠0):G s r k m=G s r k (mt s r k 2):=by rw[G,dif_pos h,dif_pos hm,dif_neg hq]
theorem G_lazy(h:k<s.size)(hm:m.1≠0)(hz:m.1<r.z/\k+1<s.size)(hq:(mt s r (k+1) m.1).1≠0):G s r k m=lit s k::G s r (k+1) (mt s r (k+1) m.1):=by
 rw[G,dif_pos h,dif_neg hm,if_pos hz,if_neg hq]
theorem G_stay(h:k<s.size)(hm:m.1≠0)(hz:m.1<r.z/\k+1<s.size)(hq:(mt s r (k+1) m.1).1=0):G s r k m=mtk m::G s r (k+m.1) (0,0):=by
 rw[G,dif_pos h,dif_neg hm,if_pos hz,if_pos hq]
theorem G_take(h:k<s.size)(hm:m.1≠0)(hz:¬(m.1<r.z/\k+1<s.size)):G s r k m=mtk m::G s r (k+m.1) (0,0):=by
 rw[G,dif_pos h,dif_neg hm,if_neg hz]
end
theorem lit_byte(s:ByteArray)(k:Nat):isB (lit s k)=true:=z1E.2 ⟨rfl,rfl⟩
theorem mtk_match{s:ByteArray}{k:Nat}{m:Nat×Nat}(h:Mt s k m):isM (mtk m)=true:=by
 have:=h.len;have:=h.dist;exact z2c.2 ⟨rfl,by show(3:Int)<=(m.1:Int);omega,by show(m.1:Int)<=258;omega,by show(1:Int)<=(m.2:Int);omega,by show(m.2:Int)<=32768;omega⟩
theorem G_len(s:ByteArray)(r:Lv)(k:Nat)(m:Nat×Nat)(hm:m.1≠0->Mt s k m):(G s r k m).length<=s.size - k:=by
 induction k,m using G.induct s r with
 |case1 k m hlt hz hq ih=>rw[G_lit hlt hz hq,qC];have:=ih (λq=>absurd rfl q);omega
 |case2 k m hlt hz hq ih=>rw[G_look hlt hz hq];exact ih (λq=>(mt_is q).1)
 |case3 k m hlt hz hc hq ih=>rw[G_stay hlt hz hc hq,qC];have:=ih (λq=>absurd rfl q);omega
 |case4 k m hlt hz hc hq ih=>rw[G_lazy hlt hz hc hq,qC];have:=ih (λq=>(mt_is q).1);omega
 |case5 k m hlt hz hc ih=>rw[G_take hlt hz hc,qC];have:=ih (λq=>absurd rfl q);omega
 |case6 k m hlt=>rw[G_end (by omega)];exact qZ
namespace Q
open Go Go.RowKit M
def lvs:List Lv:=[⟨0,0,0⟩,⟨4,8,0⟩,⟨8,16,0⟩,⟨16,32,0⟩,⟨8,16,4⟩,⟨16,32,16⟩,⟨64,128,16⟩,⟨128,128,32⟩,⟨512,258,128⟩,⟨2048,258,258⟩]
def lv(i:Nat):Lv:=lvs.getD i ⟨0,0,0⟩
end Q
end Go.Proofs.YthgilhebnlglkaaGreatDoor.V.Px
namespace Go.Proofs.YthgilhebnlglkaaGreatDoor.V.Px
namespace Q
open Go Go.RowKit M
section
variable {B:Nat} {w w':World} {v:Value} {L:List Tk}
end
def lits(s:ByteArray)(j:Nat):List Tk:=(List.range j).map (lit s)
theorem lits_length(s:ByteArray)(j:Nat):(lits s j).length=j:=by simp[lits]
