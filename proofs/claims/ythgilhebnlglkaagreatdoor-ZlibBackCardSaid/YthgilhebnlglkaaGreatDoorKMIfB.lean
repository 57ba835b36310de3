import Derived.Test.YthgilhebnlglkaaGreatDoorKMMath
import Derived.Test.YthgilhebnlglkaaGreatDoorKMBwG
set_option linter.all false
set_option maxHeartbeats 0
set_option maxRecDepth 1000000
namespace Go.Proofs.YthgilhebnlglkaaGreatDoor
namespace I
open M
structure Bt(s:ByteArray)(a:Nat)(B:List Nat):Prop where
 fit:a+B.length<=8*s.size
 one:∀x∈B,x<=1
 eq:M.nb s a B.length=V.nb B
theorem Jw(s:ByteArray)(a x y:Nat):M.nb s a (x+y)=M.nb s a x+M.nb s (a+x) y*2^x:=by
 unfold M.nb;rw[AJ,CM,AJ 2 a x,<-BJ,Ao (2^x)]
theorem sh{p q p' q' m:Nat}(b:p<m)(a:p'<m)(h:p+q*m=p'+q'*m):p=p'/\q=q':=by
 have c:p=p':=by
  have:=congrArg (· %m) h
  simpa only[DC,Ar b,Ar a] using this
 subst c;exact⟨rfl,Nat.eq_of_mul_eq_mul_right (by omega) (Nat.add_left_cancel h)⟩
section
variable {s:ByteArray} {a D L:Nat} {x:St} {X Y:List Nat}
theorem Bt.split(h:Bt s a (X++Y)):Bt s a X/\Bt s (a+X.length) Y:=by
 have e:=h.eq;have f:=h.fit;rw[qA] at e f;rw[Jw,V.nb_append] at e;have c:∀x∈X,x<=1:=λx b=>h.one x (BF _ b)
 obtain⟨d,g⟩:=sh (M.nb_lt s a X.length) (V.nb_lt X c) e;exact⟨⟨by omega,c,d⟩,⟨by omega,λx b=>h.one x (Cy _ b),g⟩⟩
theorem Bt.bits{k n:Nat}(h:Bt s x.1 (V.put n k++Y))(d:n<2^k):bits k s D L x=.ok (n,(x.1+k,x.2))/\Bt s (x.1+k) Y:=by
 obtain⟨b,c⟩:=h.split;have e:=b.eq;have f:=b.fit;rw[V.put_length] at e f c;rw[V.nb_put,Ar d] at e;refine⟨?_,c⟩;unfold I.bits;rw[A7 f,e]
theorem cdb_succ(c s:Nat):V.cdb c (s+1)=c/2^s%2::V.cdb c s:=by
 unfold V.cdb;rw[Dc,Al,BC];congr 1;apply BG;intro i _;show c/2^(s+1 - 1 - (i+1))%2=_
 congr 3;omega
theorem Ej(c:Nat):∀s,V.nb (V.cdb c s)=rv c s
 |0=>rfl
 |s+1=>by
  rw[cdb_succ];simp only[V.nb,rv,Ej c s];omega
def Cd(l:Nat->Nat)(n:Nat)(l':Nat->Nat)(n':Nat):Prop:=Tbl l' n'/\∀i,i<n->l i≠0->i<n'/\l' i=l i/\cod l' n' i=cod l n i
theorem Bt.code{l l':Nat->Nat}{n d i:Nat}(h:Bt s x.1 (V.cdb (cod l n i) (l i)++Y))(g:Cd l n l' d)(hi:i<n)(k:l i≠0):nxt l' d s D L x=.ok (i,(x.1+l i,x.2))/\Bt s (x.1+l i) Y:=by
 obtain⟨c1,b,m⟩:=g.2 i hi k;obtain⟨c,j⟩:=h.split;have e:=c.eq;have f:=c.fit;rw[V.cdb_length] at e f j;rw[Ej] at e;refine⟨?_,j⟩;rw[<-b];exact Ee g.1 c1 (by rw[b];exact k) (by rw[b];exact f) (by rw[b,e];unfold M.rc;rw[m,b])
end
theorem pg{l l':Nat->Nat}{a:Nat}(s:Nat)(hs:s≠0)(b:∀i,i<a->l' i=l i):∀n,a<=n->(∀i,a<=i->i<n->l i=0)->cnt l s n=cnt l' s a
 |0,hn,_=>by
  obtain rfl:a=0:=by omega
  rfl
 |n+1,hn,h0=>by
  by_cases e:a=n+1
  · subst e
    exact(fL s _ (λi hi=>(b i hi).symm))
  · simp only[cnt]
    rw[pg s hs b n (by omega) (λi c d=>h0 i c (by omega)),A0 (by rw[h0 n (by omega) (by omega)];omega)];rfl
theorem fc{l l':Nat->Nat}{a:Nat}(b:∀i,i<a->l' i=l i):∀n,a<=n->(∀i,a<=i->i<n->l i=0)->aa l n=aa l' a
 |0,hn,_=>by
  obtain rfl:a=0:=by omega
  rfl
 |n+1,hn,h0=>by
  by_cases e:a=n+1
  · subst e
    exact(eh _ (λi hi=>(b i hi).symm))
  · simp only[aa]
    rw[fc b n (by omega) (λi c d=>h0 i c (by omega)),h0 n (by omega) (by omega)];rfl
theorem vS{l l':Nat->Nat}{a n:Nat}(b:a<=n)(c:∀i,i<a->l' i=l i)(d:∀i,a<=i->i<n->l i=0):c0 l n=c0 l' a:=by
 funext s;unfold c0
 split
 · rfl
 · rename_i hs
   exact pg s hs c n b d
theorem kC{l l':Nat->Nat}{a n:Nat}(e:a<=n)(d:∀i,i<a->l' i=l i)(f:∀i,a<=i->i<n->l i=0)(b:May l n):kind l' a=kind l n:=by
 have c:May l' a:=⟨by have:=b.1;omega,λi hi=>by rw[d i hi];exact b.2 i (by omega)⟩;rw[bj b,bj c,fc d n e f,vS e d f]
theorem Cd.tail{l l':Nat->Nat}{a n:Nat}(f:a<=n)(c:∀i,i<a->l' i=l i)(e:∀i,a<=i->i<n->l i=0)(h:May l n)(k:kind l n<=2):Cd l n l' a:=by
 refine⟨by unfold Tbl;rw[kC f c e h];omega,λi hi d=> ?_⟩;have b:i<a:=by
  apply Classical.byContradiction
  intro g;exact d (e i (by omega) hi)
 refine⟨b,c i b,?_⟩;unfold cod;rw[c i b,vS f c e,fL (l:=l') (l':=l) _ i (λj m=>c j (by omega))]
theorem Cd.fives:Cd (λ_=>5) 30 (λ_=>5) 32:=
 ⟨by decide+kernel,λi hi _=>⟨by omega,rfl,by
  have h:∀i,i<30->cod (λ_=>5) 32 i=cod (λ_=>5) 30 i:=(by decide+kernel);exact h i hi⟩⟩
theorem Cd.fixed:Cd V.fxl 288 fx 288:=⟨by decide+kernel,λi hi _=>⟨hi,rfl,rfl⟩⟩
theorem JQ(b:List UInt8)(d:Nat):∀k,gr b d k=V.Tx.grow b d k
 |0=>rfl
 |k+1=>by simp only[gr,V.Tx.grow,JQ b d k]
def tkb(l1:Nat->Nat)(n1:Nat)(l2:Nat->Nat)(n2:Nat)(t:V.Tk):List Nat:=(V.sy1 t).flatMap (V.wsy l1 n1 l2 n2)
structure Has(l1:Nat->Nat)(l2:Nat->Nat)(L:List V.Sy):Prop where
 h1:∀y∈L,y.d=false->l1 y.n≠0
 h2:∀y∈L,y.d=true->l2 y.n≠0
section
variable {l1 l2 l d:Nat->Nat} {n1 n2 n m:Nat} {s:ByteArray} {D Lim:Nat} {x:St} {Y:List Nat}
theorem J8{t:V.Tk}(k:Cd l1 n1 l n)(r:Cd l2 n2 d m)(C:286<=n1)(K:30<=n2)(u:Has l1 l2 (V.sy1 t))(F:t.ok)(h:Bt s x.1 (tkb l1 n1 l2 n2 t++Y))(hs:(V.Tx.step D x.2 t).1=0)(o:(V.Tx.step D x.2 t).2.length - D<=Lim)(hD:D<=x.2.length):
 ∃y,sym1 l n d m () s D Lim x=.ok (.inl (),(y,(V.Tx.step D x.2 t).2))/\y=x.1+(tkb l1 n1 l2 n2 t).length/\Bt s y Y:=by
 have b:=V.Tx.step_len hs;rcases V.Tx.step_ways D x.2 t with h1|⟨h1,h2⟩|⟨h1,h2,h3⟩|⟨h2,h3,h4⟩|⟨h2,h3,h4⟩
 · rw[V.Tx.step_arg h1] at hs;exact absurd hs (by simp)
 · rw[V.Tx.step_far h1 h2] at hs;exact absurd hs (by simp)
 · rw[V.Tx.step_long h1 h2 h3] at hs;exact absurd hs (by simp)
 · obtain⟨A,B⟩:=V.isB_iff.1 h4
   have g:V.sy1 t=[⟨false,t.l.toNat,0,0⟩]:=(by unfold V.sy1;rw[A7 A]);have w:tkb l1 n1 l2 n2 t=V.cdb (cod l1 n1 t.l.toNat) (l1 t.l.toNat):=(by unfold tkb;rw[g];simp[V.wsy,V.put]);have U:=F.l;rw[w] at h ⊢;have S:=u.h1 ⟨false,t.l.toNat,0,0⟩ (by rw[g];exact Bc.2 rfl) rfl;obtain⟨p,z⟩:=h.code (D:=D) (L:=Lim) k (show t.l.toNat<n1 by omega) S;refine⟨_,?_,?_,z⟩
   · unfold sym1
     rw[a8 p,A7 (show t.l.toNat<256 by omega)];rw[V.Tx.step_byte h2 h3 h4] at o ⊢;rw[V.Tx.szo_byte h4] at b;unfold bnd app pur;simp only[qA,Bn] at o ⊢;rw[A0 (by omega)]
   · rw[V.cdb_length]
 · obtain⟨A,B,Z,t4,t5⟩:=V.isM_iff.1 h4
   have g:V.sy1 t=[⟨false,257+lsy t.n.toNat,lex t.n.toNat,lb (lsy t.n.toNat)⟩,⟨true,dsy t.d.toNat,dex t.d.toNat,db (dsy t.d.toNat)⟩]:=(by unfold V.sy1;rw[A0 (by omega)]);have f:3<=t.n.toNat/\t.n.toNat<=258:=(by omega);have c:1<=t.d.toNat/\t.d.toNat<=32768:=(by omega);have O:=(fA f).1;have T:=(dh c).1;have W:=Es f;have q4:=Gz O;have M:=EE c;have N:=yD f;have G:=zf c;have j:=u.h1 _ (by rw[g];exact Aq) rfl;have i:=u.h2 _ (by rw[g];exact AK _ (Bc.2 rfl)) rfl;simp only at j i;have w:tkb l1 n1 l2 n2 t=V.cdb (cod l1 n1 (257+lsy t.n.toNat)) (l1 (257+lsy t.n.toNat))++(V.put (lex t.n.toNat) (lb (lsy t.n.toNat))++(V.cdb (cod l2 n2 (dsy t.d.toNat)) (l2 (dsy t.d.toNat))++V.put (dex t.d.toNat) (db (dsy t.d.toNat)))):=by
    unfold tkb;rw[g];simp[V.wsy]
   rw[w] at h ⊢;simp only[qD] at h;obtain⟨p,z⟩:=h.code (D:=D) (L:=Lim) k (show 257+lsy t.n.toNat<n1 by omega) j;obtain⟨J,E⟩:=Bt.bits (x:=(x.1+l1 (257+lsy t.n.toNat),x.2)) (D:=D) (L:=Lim) z (show lex t.n.toNat<2^lb (lsy t.n.toNat) by omega);obtain⟨H,P⟩:=Bt.code (x:=(x.1+l1 (257+lsy t.n.toNat)+lb (lsy t.n.toNat),x.2)) (D:=D) (L:=Lim) E r (show dsy t.d.toNat<n2 by omega) i;obtain⟨I,Q⟩:=Bt.bits (x:=(x.1+l1 (257+lsy t.n.toNat)+lb (lsy t.n.toNat)+l2 (dsy t.d.toNat),x.2)) (D:=D) (L:=Lim) P M;refine⟨_,?_,?_,Q⟩
   · unfold sym1
     rw[a8 p,A0 (by omega),A0 (by omega)];unfold matR lenR;have R:257+lsy t.n.toNat - 257=lsy t.n.toNat:=(by omega);have v:bnd (bits (if 257+lsy t.n.toNat<=285 then lb (257+lsy t.n.toNat - 257) else 0)) (λe=>if 285<257+lsy t.n.toNat\/lof (257+lsy t.n.toNat - 257) e=0 then fl 163 else pur (lof (257+lsy t.n.toNat - 257) e)) s D Lim (x.1+l1 (257+lsy t.n.toNat),x.2)=.ok (t.n.toNat,(x.1+l1 (257+lsy t.n.toNat)+lb (lsy t.n.toNat),x.2)):=by
      rw[R,A7 (by omega),a8 J,A0 (by omega),N];rfl
     rw[a8 v,a8 H];unfold dstR;have q:bnd (bits (if dsy t.d.toNat<=29 then db (dsy t.d.toNat) else 0)) (λe=>if 29<dsy t.d.toNat\/dof (dsy t.d.toNat) e=0 then fl 163 else pur (dof (dsy t.d.toNat) e)) s D Lim (x.1+l1 (257+lsy t.n.toNat)+lb (lsy t.n.toNat)+l2 (dsy t.d.toNat),x.2)=.ok (t.d.toNat,(x.1+l1 (257+lsy t.n.toNat)+lb (lsy t.n.toNat)+l2 (dsy t.d.toNat)+db (dsy t.d.toNat),x.2)):=by
      rw[A7 (by omega),a8 I,A0 (by omega),G];rfl
     rw[a8 q];rw[V.Tx.step_match h2 h3 h4] at o ⊢;rw[V.Tx.szo_match h4] at b;simp only[V.Tx.grow_length] at o;unfold bnd copy pur;simp only;rw[A0 (by omega),A0 (by omega),JQ]
   · simp only[qA,V.cdb_length,V.put_length];omega
theorem yZ(L:List V.Tk):(V.sys L).flatMap (V.wsy l1 n1 l2 n2)=L.flatMap (tkb l1 n1 l2 n2)++V.cdb (cod l1 n1 256) (l1 256):=by
 unfold V.sys tkb;rw[AL,List.flatMap_assoc];simp[V.wsy,V.put]
theorem sX:∀ (L:List V.Tk) (b:List UInt8),(V.Tx.run D b L).1=0->b.length<=(V.Tx.run D b L).2.length
 |[],b,_=>qR
 |t::L,b,h=>by
  by_cases q:(V.Tx.step D b t).1=0
  · rw[V.Tx.run_go q] at h ⊢
    have:=sX L _ h;have:=(V.Tx.step_len q).1;omega
  · rw[V.Tx.run_no q] at h
    exact absurd h q
theorem lX(f:Cd l1 n1 l n)(o:Cd l2 n2 d m)(p:286<=n1)(i:30<=n2)(c:l1 256≠0):∀ (L:List V.Tk) (k:Nat) (x:St),L.length<k->(∀t∈L,t.ok)->Has l1 l2 (V.sys L)->Bt s x.1 ((V.sys L).flatMap (V.wsy l1 n1 l2 n2)++Y)->(V.Tx.run D x.2 L).1=0->(V.Tx.run D x.2 L).2.length - D<=Lim->D<=x.2.length->
 ∃y,loopR (sym1 l n d m) k () s D Lim x=.ok ((),(y,(V.Tx.run D x.2 L).2))/\y=x.1+((V.sys L).flatMap (V.wsy l1 n1 l2 n2)).length/\Bt s y Y
 |[],k,x,hk,hg,hh,hB,hr,hL,hD=>by
  obtain⟨k,rfl⟩:∃j,k=j+1:=⟨k - 1,by simp at hk;omega⟩
  rw[yZ] at hB ⊢;simp only[Dn,Ap] at hB ⊢;obtain⟨r,v⟩:=hB.code (D:=D) (L:=Lim) f (show 256<n1 by omega) c;refine⟨_,aR (b:=()) ?_,by rw[V.cdb_length],v⟩;unfold sym1;rw[a8 r,A0 (by decide),A7 rfl];rfl
 |t::L,k,x,hk,hg,hh,hB,hr,hL,hD=>by
  obtain⟨k,rfl⟩:∃j,k=j+1:=⟨k - 1,by simp at hk;omega⟩
  have e:V.sys (t::L)=V.sy1 t++V.sys L:=(by unfold V.sys;simp);have w:(V.sys (t::L)).flatMap (V.wsy l1 n1 l2 n2)=tkb l1 n1 l2 n2 t++(V.sys L).flatMap (V.wsy l1 n1 l2 n2):=(by rw[e,AL];rfl);rw[w,qD] at hB;have q:(V.Tx.step D x.2 t).1=0:=by
   apply Classical.byContradiction
   intro g;rw[V.Tx.run_no g] at hr;exact g hr
  rw[V.Tx.run_go q] at hr hL ⊢;have H:=V.Tx.step_len q;have F:=sX L _ hr;obtain⟨y,r,v,E⟩:=J8 (Lim:=Lim) f o p i (t:=t) ⟨λz h=>hh.h1 z (by rw[e];exact BF _ h),λz h=>hh.h2 z (by rw[e];exact BF _ h)⟩ (hg t Aq) hB q (by omega) hD;obtain⟨z,B,A,C⟩:=lX f o p i c L k (y,(V.Tx.step D x.2 t).2) (by simp at hk;omega) (λu G=>hg u (AK _ G)) ⟨λz h=>hh.h1 z (by rw[e];exact Cy _ h),λz h=>hh.h2 z (by rw[e];exact Cy _ h)⟩ E hr hL (by simp only;omega);refine⟨z,by rw[cu r];exact B,?_,C⟩;rw[A,v,w,qA];omega
end
theorem iH(l:List Nat)(a:Nat):∀k j,j<k->V.upk l a k<=j->l.getD j 0=0
 |0,j,h,_=>by omega
 |k+1,j,h,hu=>by
  rw[V.upk_succ] at hu;by_cases e:j=k
  · subst e
    split at hu
    · omega
    · omega
  · split at hu
    · exact iH l a k j (by omega) (by omega)
    · exact iH l a k j (by omega) hu
theorem iG{l:List Nat}{a j:Nat}(b:j<l.length)(h:V.upt l a<=j):l.getD j 0=0:=iH l a l.length j b h
def rP:List Nat->Nat->(Nat->Nat)->Nat->Nat
 |[],_,g=>g
 |v::l,i,g=>rP l (i+1) (λj=>if j=od.getD i 0 then v else g j)
theorem iY:∀ (b:List Nat) (i:Nat) (g:Nat->Nat) (j:Nat),(∀p,p<b.length->od.getD (i+p) 0≠j)->rP b i g j=g j
 |[],i,g,j,_=>rfl
 |v::l,i,g,j,h=>by
  rw[rP,iY l (i+1) _ j (λp c=>by rw[AC,BY 1 p];exact h (p+1) (by simp only[qC];omega))];have:=h 0 (by simp);exact A0 (λe=>this e.symm)
theorem tQ:∀ (b:List Nat) (i:Nat) (g:Nat->Nat) (p:Nat),p<b.length->(∀q,p<q->q<b.length->od.getD (i+q) 0≠od.getD (i+p) 0)->rP b i g (od.getD (i+p) 0)=b.getD p 0
 |[],i,g,p,h,_=>by simp at h
 |v::l,i,g,0,h,hi=>by
  rw[rP,iY l (i+1) _ _ (λp e=>by rw[AC,BY 1 p];exact hi (p+1) (by omega) (by simp only[qC];omega))];exact A7 rfl
 |v::l,i,g,p+1,h,hi=>by
  have:=tQ l (i+1) (λj=>if j=od.getD i 0 then v else g j) p (by simp only[qC] at h;omega) (λq c f=>by
   rw[AC i 1 q,BY 1 q,AC i 1 p,BY 1 p];exact hi (q+1) (by omega) (by simp only[qC];omega))
  rw[AC i 1 p,BY 1 p] at this;rw[rP,this];rfl
theorem Jr:∀j,j<19->∃p,p<19/\od.getD p 0=j:=by decide+kernel
theorem Ed:∀p,p<19->∀q,q<19->od.getD p 0=od.getD q 0->p=q:=by decide+kernel
theorem Jq:od=V.ord:=rfl
theorem uL(l:Nat->Nat):(V.inl l).length=19:=by unfold V.inl;rw[Ah];rfl
theorem Ew(l:Nat->Nat){p:Nat}(b:p<19):(V.inl l).getD p 0=l (od.getD p 0):=by
 unfold V.inl;rw[<-Jq];have h:p<od.length:=b;rw[List.getD,List.getD,Am,qE h];rfl
theorem Gj(l:Nat->Nat){j:Nat}(h:j<19):rP ((V.inl l).take (V.upt (V.inl l) 4)) 0 (λ_=>0) j=l j:=by
 obtain⟨p,b,rfl⟩:=Jr j h;have k:=uL l;have i:=V.upt_le (V.inl l) 4;have f:((V.inl l).take (V.upt (V.inl l) 4)).length=V.upt (V.inl l) 4:=(by rw[Af];omega);by_cases c:p<V.upt (V.inl l) 4
 · have:=tQ ((V.inl l).take (V.upt (V.inl l) 4)) 0 (λ_=>0) p (by omega) (λq g o e=>by
    rw[Aa,Aa] at e;have:=Ed q (by omega) p b e;omega)
   rw[Aa] at this;rw[this,<-Ew l b,List.getD,AD,A7 c,<-List.getD]
 · rw[iY _ _ _ _ (λq g e=>by
    rw[Aa] at e;have:=Ed q (by omega) p b e;omega)]
   rw[<-Ew l b];exact(iG (a:=4) (by omega) (by omega)).symm
section
variable {s:ByteArray} {D Lim:Nat} {Y:List Nat}
theorem E3:∀ (b:List Nat) (i:Nat) (g:Nat->Nat) (x:St),(∀v∈b,v<8)->Bt s x.1 (b.flatMap (λv=>V.put v 3)++Y)->
 ownR b.length i g s D Lim x=.ok (rP b i g,(x.1+3*b.length,x.2))/\Bt s (x.1+3*b.length) Y
 |[],i,g,x,_,h=>⟨rfl,by simpa using h⟩
 |v::l,i,g,x,hv,h=>by
  rw[AZ,qD] at h;obtain⟨k,o⟩:=h.bits (D:=D) (L:=Lim) (show v<2^3 from hv v Aq);obtain⟨f,c⟩:=E3 l (i+1) (λj=>if j=od.getD i 0 then v else g j) (x.1+3,x.2) (λu p=>hv u (AK _ p)) o;have e:x.1+3+3*l.length=x.1+3*(v::l).length:=(by rw[qC];omega);simp only at f c;rw[e] at f c;refine⟨?_,c⟩;rw[qC,ownR,a8 k,rP];exact f
theorem rT(n:Nat):∀r∈zrs n,r.s=0\/r.s=17\/r.s=18:=by
 induction n using Nat.strongRecOn with
 |_ n ih=>
  intro r hr;by_cases h:11<=n
  · rw[bB h,Ab] at hr
    rcases hr with rfl|hr
    · exact .inr (.inr rfl)
    · exact ih _ (by omega) r hr
  · by_cases b:3<=n
    · rw[bA h b,Bc] at hr
      subst hr;exact .inr (.inl rfl)
    · rw[aV b] at hr
      rw[BD hr];exact .inl rfl
theorem rU{n:Nat}(c:1<=n):∃r,r∈zrs n:=by
 by_cases h:11<=n
 · rw[bB h];exact⟨_,Aq⟩
 · by_cases b:3<=n
   · rw[bA h b];exact⟨_,Bc.2 rfl⟩
   · obtain⟨m,rfl⟩:∃m,n=m+1:=⟨n - 1,by omega⟩
     rw[aV b,BB];exact⟨_,Aq⟩
def Rft(r:Rn):Prop:=r.e<2^V.rbn r.s
theorem rbn_few{v:Nat}(b:v<=15):V.rbn v=0:=by unfold V.rbn;rw[A7 (by omega)]
theorem zrs_ft(n:Nat):∀r∈zrs n,Rft r:=by
 induction n using Nat.strongRecOn with
 |_ n ih=>
  intro r hr;by_cases h:11<=n
  · rw[bB h,Ab] at hr
    rcases hr with rfl|hr
    · show _<128;simp only;omega
    · exact ih _ (by omega) r hr
  · by_cases b:3<=n
    · rw[bA h b,Bc] at hr
      subst hr;show _<8;simp only;omega
    · rw[aV b] at hr
      rw[BD hr];show 0<1;omega
theorem oths_ft(v:Nat)(b:v<=15)(n:Nat):∀r∈qs v n,Rft r:=by
 induction n using Nat.strongRecOn with
 |_ n ih=>
  intro r hr;by_cases h:3<=n
  · rw[bf h,Ab] at hr
    rcases hr with rfl|hr
    · show _<4;simp only;omega
    · exact ih _ (by omega) r hr
  · rw[bE h] at hr
    rw[BD hr];unfold Rft;rw[rbn_few b];show 0<1;omega
theorem pk_ft:∀l:List Nat,(∀v∈l,v<=15)->∀r∈pk l,Rft r:=by
 intro l;generalize f:l.length=n
 induction n using Nat.strongRecOn generalizing l with
 |_ n ih=>
  cases l with
  |nil=>intro _ r hr;rw[gY] at hr;cases hr
  |cons v l=>
   intro c r hr;rw[aZ,AH] at hr;have b:=c v (by simp);rcases hr with hr|hr
   · unfold one at hr
     split at hr
     · exact zrs_ft _ r hr
     · unfold oth at hr
       rw[Ab] at hr;rcases hr with rfl|hr
       · unfold Rft;rw[rbn_few b];show 0<1;omega
       · exact oths_ft v b _ r hr
   · rw[qC] at f
     exact ih (l.drop (ru v l)).length (by rw[AF];omega) _ rfl (λx e=>c x (by simp[BV e])) r hr
theorem Jj:∀l:List Nat,(∀v∈l,v<=15)->(∃v∈l,v≠0)->∃r∈pk l,1<=r.s/\r.s<=15:=by
 intro l;generalize q:l.length=n
 induction n using Nat.strongRecOn generalizing l with
 |_ n ih=>
  cases l with
  |nil=>rintro _ ⟨v,k,_⟩;cases k
  |cons v l=>
   rintro f ⟨x,i,b⟩;rw[aZ];by_cases h:v=0
   · subst h
     have c:x∈l:=(Ab.1 i).elim (λe=>absurd e b) id;rw[<-Bb (ru 0 l) l,AH,lT] at c;rcases c with g|g
     · exact absurd (BD g) b
     · rw[qC] at q
       obtain⟨r,o,p⟩:=ih (l.drop (ru 0 l)).length (by rw[AF];omega) _ rfl (λy j=>f y (by simp[BV j])) ⟨x,g,b⟩;exact⟨r,Cy _ o,p⟩
   · refine⟨⟨v,0⟩,BF _ ?_,?_,f v Aq⟩
     · unfold one oth;rw[A0 h];exact Aq
     · show 1<=v;omega
theorem DY(v:Nat):∀l:List Nat,∀x r,l.drop (ru v l)=x::r->x≠v
 |[],x,r,h=>by simp at h
 |y::l,x,r,h=>by
  unfold ru at h
  split at h
  · rw[Ck] at h;exact DY v l x r h
  · rename_i q
    rw[BZ] at h;cases h;exact q
theorem Ji{l:List Nat}(j:∀v∈l,v<=15)(q:5<=l.length)(u:∃v∈l,v≠0):∃b∈pk l,∃i∈pk l,b.s≠i.s:=by
 cases l with
 |nil=>simp at q
 |cons v l=>
  rw[qC] at q;by_cases k:v=0
  · subst k
    obtain⟨i,w,A,z⟩:=Jj _ j u;obtain⟨b,f⟩:=rU (show 1<=ru 0 l+1 by omega);have t:=rT _ b f;refine⟨b,?_,i,w,by omega⟩;rw[aZ];exact BF _ (by unfold one;rw[A7 rfl];exact f)
  · have hf:(⟨v,0⟩:Rn)∈pk (v::l):=by rw[aZ];exact BF _ (by unfold one oth;rw[A0 k];exact Aq)
    have y:=j v Aq;refine⟨_,hf,?_⟩;rw[aZ];by_cases c:3<=ru v l
    · refine⟨⟨16,min (ru v l) 6 - 3⟩,BF _ ?_,by simp only;omega⟩
      unfold one oth;rw[A0 k,Bo,bf c];exact AK _ Aq
    · cases h:l.drop (ru v l) with
      |nil=>
       have:=congrArg List.length h;rw[AF] at this;simp at this;omega
      |cons x r=>
       have o:=DY v l x r h
       have p:x<=15:=j x (by
        have:x∈l.drop (ru v l):=(by rw[h];exact Aq);simp[BV this])
       rw[aZ];by_cases g:x=0
       · obtain⟨b,f⟩:=rU (show 1<=ru x r+1 by omega)
         have t:=rT _ b f;refine⟨b,Cy _ (BF _ (by unfold one;rw[A7 g];exact f)),?_⟩;show v≠b.s
         omega
       · refine⟨⟨x,0⟩,Cy _ (BF _ (by unfold one oth;rw[A0 g];exact Aq)),?_⟩
         show v≠x
         exact λe=>o e.symm
theorem tq{l o:Nat->Nat}{N:Nat}{all:List Nat}(q:Cd l 19 o 19):∀ (rs:List Rn) (out:List Nat) (k:Nat) (x:St),rs.length<k->(∀r∈rs,r.s<19/\l r.s≠0/\Rft r)->Bt s x.1 (rs.flatMap (V.wrn l)++Y)->unp N out rs=(0,all)->
 ∃y,loopR (len1 o N) k out s D Lim x=.ok (all,(y,x.2))/\y=x.1+(rs.flatMap (V.wrn l)).length/\Bt s y Y
 |[],out,k,x,hk,_,h,f=>by
  obtain⟨k,rfl⟩:∃j,k=j+1:=⟨k - 1,by simp at hk;omega⟩
  have C:¬out.length<N:=by
   intro g;rw[ny g] at f;cases f
  rw[iK C] at f;injection f with _ f
  subst f;refine⟨x.1,aR (b:=out) ?_,by simp,by simpa using h⟩;unfold len1;rw[A7 (by omega)];rfl
 |r::rs,out,k,x,hk,hr,h,f=>by
  obtain⟨k,rfl⟩:∃j,k=j+1:=⟨k - 1,by simp at hk;omega⟩
  obtain⟨G,I,H⟩:=hr r Aq;have p:tms r≠0:=λe=>by rw[sg e] at f;cases f
  have i:¬(r.s=16/\out=[]):=λe=>by rw[jK p e.1 e.2] at f;cases f
  have t:¬N<out.length+tms r:=λe=>by rw[iI p i e] at f;cases f
  rw[ei p i t] at f;rw[AZ,qD] at h;have F:Bt s x.1 (V.cdb (cod l 19 r.s) (l r.s)++(V.put r.e (V.rbn r.s)++(rs.flatMap (V.wrn l)++Y))):=by
   unfold V.wrn at h;rw[qD] at h;exact h
  obtain⟨w,E⟩:=F.code (D:=D) (L:=Lim) q G I;obtain⟨J,B⟩:=Bt.bits (x:=(x.1+l r.s,x.2)) (D:=D) (L:=Lim) E H;obtain⟨y,A,v,z⟩:=tq q rs (out++List.replicate (tms r) (vlr out r)) k (x.1+l r.s+V.rbn r.s,x.2) (by simp only[qC] at hk;omega) (λu f=>hr u (AK _ f)) B f;refine⟨y,?_,?_,z⟩
  · refine(cu (a':=out++List.replicate (tms r) (vlr out r)) (y:=(x.1+l r.s+V.rbn r.s,x.2)) ?_).trans A
    unfold len1;rw[A0 (by omega),a8 w];have e:rbm r.s=V.rbn r.s:=rfl;rw[e,a8 J];have c:¬((r.s=16/\out=[])\/N<out.length+tms ⟨r.s,r.e⟩):=λe=>e.elim i t
    rw[A0 c];rfl
  · rw[v,AZ,qA]
    unfold V.wrn;rw[qA,V.cdb_length,V.put_length];simp only;omega
theorem put3_len:∀b:List Nat,(b.flatMap λv=>V.put v 3).length=3*b.length
 |[]=>rfl
 |v::b=>by rw[AZ,qA,put3_len b,V.put_length,qC];omega
theorem oB{f:Nat->Nat}{n i:Nat}(hi:i<n):((List.range n).map f).getD i 0=f i:=by
 rw[List.getD,Am,Bj hi];rfl
end
theorem oP(c:Nat->Nat){n L:Nat}(f:1<=L)(e:L<=15)(g:n<=2^L)(b:n<=320):kind (V.hfl c n L) n<=2:=by
 rw[V.hfl_eq,m8 (V.hf_lv c n) b (V.hf_nds c f g) f e]
 split
 · omega
 · split<;>omega
theorem GV(c:Nat->Nat){n L:Nat}(h:1<=L)(g:L<=15)(v:n<=2^L)(b:n<=320){i j:Nat}(hi:i<n)(t:j<n)(f:i≠j)(o:0<c i)(r:0<c j):kind (V.hfl c n L) n=2:=by
 rw[V.hfl_eq,m8 (V.hf_lv c n) b (V.hf_nds c h v) h g];obtain⟨p,w,k⟩:=(V.hf_lv c n).all i hi o;obtain⟨q,y,u⟩:=(V.hf_lv c n).all j t r;rw[A0 (by omega),A0];intro e;have:p=q:=(by omega);subst this;exact f (k.symm.trans u)
theorem yT(c:Nat->Nat){n L:Nat}(b:1<=L)(f:n<=2^L){i:Nat}(hi:i<n)(g:0<c i):V.hfl c n L i≠0:=λe=>by
 have:=(de (V.hf_lv c n) (V.hf_nds c b f) b hi).1 e;omega
section
variable {s:ByteArray} {D Lim:Nat} {Y:List Nat}
def hds(a b u:Nat)(xs:List Nat)(rs:List Rn)(l:Nat->Nat):List Nat:=V.put (a - 257) 5++V.put (b - 1) 5++V.put (u - 4) 4++xs.flatMap (λv=>V.put v 3)++rs.flatMap (V.wrn l)
theorem G8{a b u K:Nat}{c all:List Nat}{rs:List Rn}{l:Nat->Nat}(P:257<=a/\a<=286)(Q:1<=b/\b<=30)(R:4<=u/\u<=19)(q:c.length=u)(F:∀v∈c,v<8)(w:Cd l 19 (rP c 0 λ_=>0) 19)
 (B:kind (rP c 0 λ_=>0) 19=2) (I:rs.length<K) (k:∀r∈rs,r.s<19/\l r.s≠0/\Rft r) (i:unp (a+b) [] rs=(0,all)) (f:all.getD 256 0≠0) (C:Tbl (lit all) a) (z:Tbl (dis all a) b) (x:St) (h:Bt s x.1 (hds a b u c rs l++Y)):
 dyn K s D Lim x=.ok ((all,a,b),(x.1+(hds a b u c rs l).length,x.2))/\Bt s (x.1+(hds a b u c rs l).length) Y:=by
 unfold hds at h ⊢;simp only[qD] at h;obtain⟨t,G⟩:=h.bits (D:=D) (L:=Lim) (show a - 257<2^5 by omega);obtain⟨M,E⟩:=Bt.bits (x:=(x.1+5,x.2)) (D:=D) (L:=Lim) G (show b - 1<2^5 by omega);obtain⟨H,j⟩:=Bt.bits (x:=(x.1+5+5,x.2)) (D:=D) (L:=Lim) E (show u - 4<2^4 by omega);obtain⟨o,O⟩:=E3 (D:=D) (Lim:=Lim) c 0 (λ_=>0) (x.1+5+5+4,x.2) F j;obtain⟨y,p,J,A⟩:=tq (D:=D) (Lim:=Lim) (N:=a+b) w rs [] K (x.1+5+5+4+3*c.length,x.2) I k O i;have g:x.1+(V.put (a - 257) 5++V.put (b - 1) 5++V.put (u - 4) 4++c.flatMap (λv=>V.put v 3)++rs.flatMap (V.wrn l)).length=y:=by
  rw[J];simp only[qA,V.put_length,put3_len];omega
 rw[g];refine⟨?_,A⟩;rw[q] at o p;unfold dyn;rw[a8 t,a8 M,a8 H,A0 (by omega),show u - 4+4=u by omega,a8 o,A0 (by rw[B];omega)];rw[show a - 257+257=a by omega,show b - 1+1=b by omega,a8 p];unfold tabR;rw[A0]
 · rfl
 · rintro(e|e|e)
   · exact f e
   · exact e C
   · exact e z
theorem Ja{L:List V.Tk}(Z:∀t∈L,V.may t=true)(R:∀t∈L,t.ok){K:Nat}(hK:1000<=K)(x:St)(h:Bt s x.1 (V.hdd L++Y)):
 ∃t:List Nat×Nat×Nat,dyn K s D Lim x=.ok (t,(x.1+(V.hdd L).length,x.2))/\Bt s (x.1+(V.hdd L).length) Y/\Cd (V.ll1 L) 286 (lit t.1) t.2.1/\Cd (V.ll2 L) 30 (dis t.1 t.2.1) t.2.2:=by
 have e1:(V.lx1 L).length=286:=(by unfold V.lx1;simp);have e2:(V.lx2 L).length=30:=(by unfold V.lx2;simp);have e3:=uL (V.ll3 L);have u1:=V.upt_le (V.lx1 L) 257;have U:=V.upt_le (V.lx2 L) 1;obtain⟨a,f⟩:∃a,V.upt (V.lx1 L) 257=a:=⟨_,rfl⟩
 obtain⟨b,hdb⟩:∃b,V.upt (V.lx2 L) 1=b:=⟨_,rfl⟩
 rw[f] at u1;rw[hdb] at U;have u3:=V.upt_le (V.inl (V.ll3 L)) 4;have I:∀i,i<286->(V.lx1 L).getD i 0=V.ll1 L i:=λi hi=>oB hi
 have E:∀i,i<30->(V.lx2 L).getD i 0=V.ll2 L i:=λi hi=>oB hi
 have t1:∀i,a<=i->i<286->V.ll1 L i=0:=λi q u=>by rw[<-I i u];exact iG (a:=257) (by omega) (by rw[f];exact q)
 have W:∀i,b<=i->i<30->V.ll2 L i=0:=λi q u=>by rw[<-E i u];exact iG (a:=1) (by omega) (by rw[hdb];exact q)
 have O:∀i,i<19->rP ((V.inl (V.ll3 L)).take (V.upt (V.inl (V.ll3 L)) 4)) 0 (λ_=>0) i=V.ll3 L i:=λi hi=>Gj (V.ll3 L) hi
 have l8:∀v∈(V.inl (V.ll3 L)).take (V.upt (V.inl (V.ll3 L)) 4),v<8:=λv z=>by
  obtain⟨j,_,rfl⟩:=Ay.1 (AO z);have:=V.hfl_le (V.rc (V.rrs L)) (n:=19) (L:=7) (by decide) (by decide) j;show V.ll3 L j<8
  unfold V.ll3;omega
 have S:((V.inl (V.ll3 L)).take (V.upt (V.inl (V.ll3 L)) 4)).length=V.upt (V.inl (V.ll3 L)) 4:=(by rw[Af];omega);have p:V.ll1 L 256≠0:=(V.has_code L Z R (y:=⟨false,256,0,0⟩) (by unfold V.sys;simp)).1 rfl
 -- all lengths,one behind the other
 obtain⟨all,c⟩:∃all,(V.lx1 L).take (a)++(V.lx2 L).take (b)=all:=⟨_,rfl⟩
 have k:V.rrs L=pk all:=(by unfold V.rrs;rw[f,hdb,c]);have l1:((V.lx1 L).take (a)).length=a:=(by rw[Af];omega);have l2:((V.lx2 L).take (b)).length=b:=(by rw[Af];omega);have a0:all.length=a+b:=(by rw[<-c,qA,l1,l2]);have o:∀v∈all,v<=15:=λv z=>by
  rw[<-c] at z;rcases AH.1 z with g|g
  · obtain⟨i,_,rfl⟩:=Ay.1 (AO g)
    exact V.hfl_le _ (by decide) (by decide) i
  · obtain⟨i,_,rfl⟩:=Ay.1 (AO g)
    exact V.hfl_le _ (by decide) (by decide) i
 have N:∀i,i<a->lit all i=V.ll1 L i:=λi hi=>by
  unfold lit;rw[<-c,List.getD,Dk (by omega),AD,A7 hi,<-List.getD];exact I i (by omega)
 have Q:∀i,i<b->dis all (a) i=V.ll2 L i:=λi hi=>by
  unfold dis;rw[<-c,List.getD,DL (by omega),l1,Do,AD,A7 hi,<-List.getD];exact E i (by omega)
 have c1:Cd (V.ll1 L) 286 (lit all) (a):=Cd.tail (by omega) N t1 (V.hfl_fine _ (by decide) (by decide) (by decide) (by decide)).may (oP _ (by decide) (by decide) (by decide) (by decide));have H:Cd (V.ll2 L) 30 (dis all (a)) (b):=Cd.tail (by omega) Q W (V.hfl_fine _ (by decide) (by decide) (by decide) (by decide)).may (oP _ (by decide) (by decide) (by decide) (by decide));have e:all.getD 256 0=V.ll1 L 256:=N 256 (by omega)
 -- the runs
 have w:∀r∈V.rrs L,r.s<19/\V.ll3 L r.s≠0/\Rft r:=λr C=>by
  have q1:=V.pk_ok all o r (by rw[<-k];exact C);have T:=pk_ft all o r (by rw[<-k];exact C);have F:r.s<19:=(by have:=q1.1;omega);exact⟨F,yT _ (by decide) (by decide) F (V.rc_pos _ r C),T⟩
 have k3:kind (V.ll3 L) 19=2:=by
  obtain⟨M,q,G,u,A⟩:=Ji o (by omega) ⟨V.ll1 L 256,by rw[<-e,List.getD,qE (show 256<all.length by omega)];exact AW _,p⟩;rw[<-k] at q u;exact GV _ (by decide) (by decide) (by decide) (by decide) (w M q).1 (w G u).1 A (V.rc_pos _ M q) (V.rc_pos _ G u)
 have J:May (V.ll3 L) 19:=(V.hfl_fine _ (by decide) (by decide) (by decide) (by decide)).may;have ko:=kC (BN 19) O (λi P g2=>by omega) J;have c3:=Cd.tail (BN 19) O (λi P g2=>by omega) J (by omega);have B:unp (a+b) [] (V.rrs L)=(0,all):=by
  have:=zW (n:=a+b) (L:=[]) all [] (λv z=>by have:=o v z;omega) (by simp;omega);rw[Az,Ap] at this;rw[k,this,iK (by omega)]
 have rl:=V.rrs_len L;have hh:V.hdd L=hds (a) (b) (V.upt (V.inl (V.ll3 L)) 4) ((V.inl (V.ll3 L)).take (V.upt (V.inl (V.ll3 L)) 4)) (V.rrs L) (V.ll3 L):=(by rw[<-f,<-hdb];rfl);rw[hh] at h ⊢;have:=G8 (D:=D) (Lim:=Lim) (by omega) (by omega) (by omega) S l8 c3 (ko.trans k3) (show(V.rrs L).length<K by omega) w B (by rw[e];exact p) c1.1 H.1 x h;exact⟨(all,a,b),this.1,this.2,c1,H⟩
