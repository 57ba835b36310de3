import Derived.Test.YthgilhebnlglkaaGreatDoorKQtD
import Derived.Test.YthgilhebnlglkaaGreatDoorKMIfB
set_option linter.all false
set_option maxHeartbeats 0
set_option maxRecDepth 1000000
namespace Go.Proofs.YthgilhebnlglkaaGreatDoor
namespace V
open Go Go.RowKit M U
theorem G6(n:Nat):∀x∈List.replicate n 0,x<=1:=λx a=>by rw[BD a];omega
theorem aP{a b:List Nat}(c:∀x∈a,x<=1)(e:∀x∈b,x<=1):∀x∈a++b,x<=1:=λx d=>(AH.1 d).elim (c x) (e x)
theorem dD{α:Type}{f:α->List Nat}{l:List α}(h:∀a∈l,∀x∈f a,x<=1):∀x∈l.flatMap f,x<=1:=λx b=>by
 obtain⟨a,c,b⟩:=Cg.1 b;exact h a c x b
theorem rW(b:Nat->Nat)(d:Nat)(c:Nat->Nat)(a:Nat)(y:Sy):∀x∈wsy b d c a y,x<=1:=by
 unfold wsy;refine aP ?_ (aY _ _)
 split<;>exact vO _ _
theorem FJ(o:Nat)(s:ByteArray)(last:Bool):∀x∈stb o s last,x<=1:=by
 unfold stb;exact aP (aP (aP (aP (mF _ _) (G6 _)) (aY _ _)) (aY _ _)) (dD λ_ _=>aY _ _)
theorem GY(L:List Tk):∀x∈hdd L,x<=1:=by
 unfold hdd dyb;refine aP (aP (aP (aP (aY _ _) (aY _ _)) (aY _ _)) (dD λ_ _=>aY _ _)) (dD λa _=> ?_);unfold wrn;exact aP (vO _ _) (aY _ _)
theorem Ih(k:Nat)(L:List Tk)(a:ByteArray)(last:Bool)(o:Nat):∀x∈blk k L a last o,x<=1:=by
 unfold blk
 split
 · exact FJ _ _ _
 · split
   · exact aP (mF _ _) (dD λy _=>rW _ _ _ _ y)
   · exact aP (aP (mF _ _) (GY L)) (dD λy _=>rW _ _ _ _ y)
theorem ya(n:Nat)(l:List Nat):nb (List.replicate n 0++l)=nb l*2^n:=by
 rw[nb_append,AP];have:nb (List.replicate n 0)=0:=by
  induction n with
  |zero=>rfl
  |succ n ih=>rw[BB,nb,ih]
 rw[this,Aa]
end V
namespace I
open M
theorem nb_byb(r:ByteArray):∀k,k<=r.size->V.nb (V.byb r k)=vl (r.data.toList.take k)
 |0,_=>by simp[V.byb,V.nb,vl]
 |k+1,h=>by
  have b:=ai r;have e:r.data.toList.take (k+1)=r.data.toList.take k++[r.data.toList.getD k 0]:=by
   rw[Bd,List.getD,qE (by omega)];rfl
  rw[V.byb_succ,V.nb_append,nb_byb r k (by omega),e,ca,V.byb_length,V.nb_put,Af,AS (by omega)];have a:vl [r.data.toList.getD k 0]=V.bty r k:=(by simp[vl,V.bty]);rw[a,Ar (by have:=V.bty_lt r k;omega),iX,Ao 8 k,Ao]
theorem Gr(s:ByteArray)(p n:Nat)(h:p<=s.size):M.nb s (8*p) (8*n)=vl ((s.data.toList.drop p).take n):=by
 have b:=ai s;have e:=ca (s.data.toList.take p) (s.data.toList.drop p);rw[Bb,Af,AS (by omega)] at e;have a:=wP (s.data.toList.take p);rw[Af,AS (by omega)] at a;unfold M.nb M.tx;rw[<-iX,<-iX,e,Nat.add_mul_div_left _ _ (Df (by decide)),Cf a,Aa];by_cases c:n<=(s.data.toList.drop p).length
 · rw[lG _ _ c]
 · rw[Aj (by omega),Ar]
   exact Ag (wP _) (Ak (by decide) (by omega))
theorem Kb{s r:ByteArray}{p n:Nat}{Y:List Nat}(c:r.size=n)(h:Bt s (8*p) (V.byb r r.size++Y)):I.byt s p n=r.data.toList:=by
 obtain⟨b,_⟩:=h.split;have e:=b.eq;have f:=b.fit;have a:=ai r;have hs:=ai s;rw[V.byb_length,c] at e f;rw[c] at a;rw[Ao n 8,Gr s p n (by omega),nb_byb r n (by omega),Aj (CH a)] at e;have i:((s.data.toList.drop p).take n).length=n:=(by rw[Af,AF];omega);have d:=GN ((s.data.toList.drop p).take n);have g:=GN r.data.toList;unfold I.byt;rw[<-d,<-g,e,i,a]
section
variable {s:ByteArray} {D Lim:Nat} {Y:List Nat}
theorem Lb(a:Nat):8*((a+7) /8)=a+V.pd a:=by unfold V.pd;omega
theorem J9{r:ByteArray}(t:r.size<=65535)(x:St)(h:Bt s x.1 (List.replicate (V.pd x.1) 0++(V.put r.size 16++(V.put (65535 - r.size) 16++(V.byb r r.size++Y)))))(q:x.2.length - D+r.size<=Lim):
 stor s D Lim x=.ok ((),(x.1+V.pd x.1+32+8*r.size,x.2++r.data.toList))/\Bt s (x.1+V.pd x.1+32+8*r.size) Y:=by
 obtain⟨_,c⟩:=h.split;rw[AP] at c;obtain⟨e,i⟩:=Bt.bits (x:=(x.1+V.pd x.1,x.2)) (D:=D) (L:=Lim) c (show r.size<2^16 by omega);obtain⟨k,a⟩:=Bt.bits (x:=(x.1+V.pd x.1+16,x.2)) (D:=D) (L:=Lim) i (show 65535 - r.size<2^16 by omega);have o:=ai r;have g:=Lb x.1;obtain⟨p,d⟩:∃p,x.1+V.pd x.1+16+16=8*p:=⟨(x.1+V.pd x.1+16+16) /8,by omega⟩
 simp only[d] at a;have m:=Kb rfl a;obtain⟨j,b⟩:=a.split;have f:=j.fit;rw[V.byb_length] at f b;have n:byts r.size s D Lim (8*p,x.2)=.ok (r.data.toList,(8*(p+r.size),x.2)):=by
  unfold byts;rw[show(8*p+7) /8=p by omega,A7 (by omega),m]
 have l:8*p+r.size*8=x.1+V.pd x.1+32+8*r.size:=(by omega);rw[l] at b;refine⟨?_,b⟩;unfold stor;rw[a8 (show algn s D Lim x=.ok ((),(x.1+V.pd x.1,x.2)) from by unfold algn;rw[g]),a8 e,a8 k,A0 (by omega)];simp only[d];rw[a8 n];unfold app;simp only;rw[A0 (by omega)];congr 3;omega
theorem oT(i:Nat):V.fxl i≠0:=by have:=(V.fxl_in i).1;omega
theorem E4{k K:Nat}{L:List V.Tk}{r:ByteArray}{last:Bool}(O:k<=2)(n:∀t∈L,V.may t=true)(i:∀t∈L,t.ok)(H:r.size<=65535)(C:1000<=K)(j:L.length<K)(x:St)(h:Bt s x.1 (V.blk k L r last x.1++Y))
 (d:k≠0->V.Tx.run D x.2 L=(0,x.2++r.data.toList)) (A:x.2.length - D+r.size<=Lim) (v:D<=x.2.length):
 blk K () s D Lim x=.ok (if last=true then .inr () else .inl (),(x.1+(V.blk k L r last x.1).length,x.2++r.data.toList))/\Bt s (x.1+(V.blk k L r last x.1).length) Y:=by
 have P:=ai r;obtain⟨B,c⟩:∃B,V.blk k L r last x.1=V.hdb k last++B:=by
  have o:k=0\/k=1\/k=2:=(by omega);rcases o with rfl|rfl|rfl
  · unfold V.blk V.stb;rw[A7 rfl];simp only[qD];exact⟨_,rfl⟩
  · unfold V.blk;rw[A0 (by decide),A7 rfl];exact⟨_,rfl⟩
  · unfold V.blk;rw[A0 (by decide),A0 (by decide)];simp only[qD];exact⟨_,rfl⟩
 have g:Bt s (x.1+3) (B++Y)->body K k s D Lim (x.1+3,x.2)=.ok ((),(x.1+3+B.length,x.2++r.data.toList))/\Bt s (x.1+3+B.length) Y:=λf=>by
  have o:k=0\/k=1\/k=2:=(by omega);rcases o with rfl|rfl|rfl
  · have b:B=List.replicate (V.pd (x.1+3)) 0++(V.put r.size 16++(V.put (65535 - r.size) 16++V.byb r r.size)):=by
     unfold V.blk V.stb at c;rw[A7 rfl] at c;simp only[qD] at c;exact(DM c).symm
    have u:B.length=V.pd (x.1+3)+32+8*r.size:=by
     rw[b];simp only[qA,AP,V.put_length,V.byb_length];omega
    rw[b] at f;simp only[qD] at f;have:=J9 (D:=D) (Lim:=Lim) H (x.1+3,x.2) f A;simp only at this;rw[show x.1+3+B.length=x.1+3+V.pd (x.1+3)+32+8*r.size by omega];exact this
  · have b:B=(V.sys L).flatMap (V.wsy V.fxl 288 (λ_=>5) 30):=by
     unfold V.blk at c;rw[A0 (by decide),A7 rfl] at c;exact(DM c).symm
    have a:=d (by decide);rw[b] at f ⊢;obtain⟨y,l,m,p⟩:=lX (D:=D) (Lim:=Lim) Cd.fixed Cd.fives (by decide) (by decide) (oT 256) L K (x.1+3,x.2) j i ⟨λy _ _=>oT _,λy _ _=>by show(5:Nat)≠0;decide⟩ f (by rw[a]) (by rw[a,qA];omega) v;rw[a] at l;simp only at m;rw[<-m];exact⟨l,p⟩
  · have b:B=V.hdd L++(V.sys L).flatMap (V.wsy (V.ll1 L) 286 (V.ll2 L) 30):=by
     unfold V.blk at c;rw[A0 (by decide),A0 (by decide)] at c;simp only[qD] at c;exact(DM c).symm
    have a:=d (by decide);rw[b] at f;simp only[qD] at f;obtain⟨t,z,M,c1,G⟩:=Ja (D:=D) (Lim:=Lim) n i C (x.1+3,x.2) f
    obtain⟨y,l,m,p⟩:=lX (D:=D) (Lim:=Lim) c1 G (by decide) (by decide) ((V.has_code L n i (y:=⟨false,256,0,0⟩) (by unfold V.sys;simp)).1 rfl) L K (x.1+3+(V.hdd L).length,x.2) j i
     ⟨λy q e=>(V.has_code L n i q).1 e,λy q e=>(V.has_code L n i q).2 e⟩ M (by rw[a]) (by rw[a,qA];omega) v
    rw[a] at l;have e:x.1+3+B.length=y:=(by rw[b,qA,m];simp only;omega);rw[e];refine⟨?_,p⟩;unfold body;rw[A0 (by decide),A0 (by decide),A7 rfl,a8 z];exact l
 rw[c] at h ⊢;unfold V.hdb at h ⊢;simp only[qD] at h;obtain⟨w,F⟩:=h.bits (D:=D) (L:=Lim) (show(if last=true then 1 else 0)<2^1 by split<;>decide);obtain⟨N,E⟩:=Bt.bits (x:=(x.1+1,x.2)) (D:=D) (L:=Lim) F (show k<2^2 by omega);obtain⟨I,J⟩:=g E;have e:x.1+(V.put (if last=true then 1 else 0) 1++V.put k 2++B).length=x.1+3+B.length:=by
  simp only[qA,V.put_length];omega
 rw[e];refine⟨?_,J⟩;unfold blk;rw[a8 w,a8 N,a8 I];cases last<;>rfl
