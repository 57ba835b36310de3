import Derived.Test.YthgilhebnlglkaaGreatDoorKMIfY
import Derived.Test.YthgilhebnlglkaaGreatDoorKSaE
set_option linter.all false
set_option maxHeartbeats 0
set_option maxRecDepth 1000000
open Go.Proofs.Tryz
namespace Go.Proofs.YthgilhebnlglkaaGreatDoor
namespace I
open Go Go.RowKit M
section
variable {s:ByteArray} {D L N:Nat} {x z:St} {l:Nat->Nat}
theorem FX{y e:Nat}(h:rM l s D L x=.ok ((y,e),z))(c:x.1<=8*s.size):y<=18/\e<=127/\x.1<z.1/\z.1<=8*s.size/\tms ⟨y,e⟩≠0:=by
 unfold rM at h;obtain⟨o,w,f,p⟩:=ay h;obtain⟨e',v,i,r⟩:=ay p;have b:=(a9.bits (rbm o)).inn i ((a9.nxt l 19).inn f c);obtain⟨u,t,C,A,B,rfl⟩:=cq f c;cases r;obtain⟨a,rfl⟩:=bu i (2^rbm y) qR;have n:∀y,y<19->(y<16->rbm y=0)/\(y=16->rbm y=2)/\(y=17->rbm y=3)/\(y=18->rbm y=7):=(by decide);obtain⟨k,g,j,m⟩:=n y t;have d:y<16\/y=16\/y=17\/y=18:=(by omega);refine⟨by omega,?_,by simp only;omega,b,?_⟩
 · rcases d with q|q|q|q
   · rw[k q] at a;omega
   · rw[g q] at a;omega
   · rw[j q] at a;omega
   · rw[m q] at a;omega
 · rcases d with q|q|q|q
   · rw[k q] at a
     obtain rfl:e=0:=by omega
     rw[lI q];decide
   · rw[g q] at a;subst q;rw[su (by omega)];omega
   · rw[j q] at a;subst q;rw[sr (by omega)];omega
   · rw[m q] at a;subst q;rw[sq (by omega)];omega
theorem GM{all:List Nat}{c:Nat}(e:¬N<=all.length)(h:rM l s D L x=.error c):len1 l N all s D L x=.error c:=by
 unfold len1;rw[A0 e];unfold rM at h;cases a:nxt l 19 s D L x with
 |error d=>rw[ak a] at h ⊢;cases h;rfl
 |ok p=>
  rw[a8 a] at h ⊢;cases b:bits (rbm p.1) s D L p.2 with
  |error d=>rw[ak b] at h ⊢;cases h;rfl
  |ok p2=>rw[a8 b] at h;cases h
theorem GL{all:List Nat}{y e:Nat}(b:¬N<=all.length)(h:rM l s D L x=.ok ((y,e),z)):len1 l N all s D L x=if(y=16/\all=[])\/N<all.length+tms ⟨y,e⟩ then .error 162 else .ok (.inl (all++List.replicate (tms ⟨y,e⟩) (vlr all ⟨y,e⟩)),z):=by
 unfold rM at h;obtain⟨i,g,a,d⟩:=ay h;obtain⟨e',j,c,f⟩:=ay d;cases f;unfold len1;rw[A0 b,a8 a,a8 c]
 split<;>rfl
theorem yH{all:List Nat}(a:N<=all.length):len1 l N all s D L x=.ok (.inr all,x):=by
 unfold len1;rw[A7 a];rfl
end
structure LS(w:World)(r B g q:Nat)(s:ByteArray)(D L N p:Nat)(l:Nat->Nat)(F:Except Nat (List Nat×St))(all:List Nat)(v:Value)(x:St)(wr:World):Prop where
 ex:∃r1,(r1=r\/w.heap.size<=r1)/\In wr B g q r1 s D L x/\Tb wr r1 p l 19
 kp:Kept (Ch g q r) w wr
 tb:TB B wr
 rs:∃Rs,U.Owr w.heap.size wr v Rs/\(Rs=[]->v=.slice none 0 0)/\(∀rest,unp N [] (Rs++rest)=unp N all rest)/\Rs.length<=all.length/\∀t∈Rs,t.s<=18/\t.e<=127
 le:all.length<=N
 fu:∃k,8*s.size - x.1<k/\loopR (len1 l N) k all s D L x=F
def zS(w:World)(N:Nat)(all:List Nat)(e:Ending)(w':World):Prop:=∃A c,e=.returned (.slice A N c)/\all.length=N/\U.IsBys w' A N all/\N<=c
section
variable {w wr:World} {r B g q D L N p:Nat} {s:ByteArray} {x:St} {l:Nat->Nat} {F:Except Nat (List Nat×St)} {all:List Nat} {v:Value}
theorem LS.apart(h:LS w r B g q s D L N p l F all v x wr)(n:g<w.heap.size)(m:q<w.heap.size){d:List Rn}(b:U.Owr w.heap.size wr v d){r1:Nat}(e:In wr B g q r1 s D L x):∀j,v.ownBlock=some j->j≠g/\j≠q/\j≠r1:=λj a=>by
 obtain⟨k,o⟩:=b.lt j a;obtain⟨cs,f⟩:=b.ty j a;obtain⟨c,fz,i⟩:=e.byt;exact⟨by omega,by omega,nA f i (by decide)⟩
theorem LS.run(h:LS w r B g q s D L N p l F all v x wr)(hs:s.size<=100000)(G:g<w.heap.size)(E:q<w.heap.size):
 Calls prog 255 #[.pointer (some ⟨g,0,none⟩),.pointer (some ⟨p,0,none⟩)] wr λe w'=>
  match rM l s D L x with
  |.ok pp=>LK pp.1 e w'/\(∃d,(d=r\/w.heap.size<=d)/\In w' B g q d s D L pp.2/\Tb w' d p l 19)/\Kept (Ch g q r) w w'/\TB B w'/\∀m,U.Owr w.heap.size wr v m->U.Owr w.heap.size w' v m
  |.error c=>e=.panicked (flt c)/\Kept (Ch g q r) w w':=by
 obtain⟨d,a,k,u⟩:=h.ex;have M:=h.kp.size;refine(L0 k hs h.tb u).mono λe w' o=> ?_
 cases t:rM l s D L x with
 |error c=>
  rw[t] at o;exact⟨o.1,Kept.ch_trans h.kp o.2 a⟩
 |ok pp=>
  rw[t] at o;obtain⟨H,i,J,b,A⟩:=o;refine⟨H,⟨J,?_,A,Tb.go k u i b⟩,Kept.ch_trans h.kp i a,h.tb.go (k.bl i),λm n=>n.at λj y=> ?_⟩
  · rcases b with e|e
    · rw[e];exact a
    · exact .inr (by omega)
  · obtain⟨K,C,I⟩:=h.apart G E n k j y
    exact i.block j (n.lt j y).2 (λe=>by rcases e with e|e|e;exact K e;exact C e;exact I e)
theorem In.runs(h:In wr B g q r s D L x){C:List Rn}{G:Nat}(u:U.Owr G wr v C)(O:C=[]->v=.slice none 0 0)(Q:g<G)(P:q<G){w':World}(E:wr.grownBy w' v.ownBlock):In w' B g q r s D L x/\(∀y f l',Tb wr r y l' f->Tb w' r y l' f)/\Kept (λj=>v.ownBlock=some j) wr w':=by
 have o:Kept (λj=>v.ownBlock=some j) wr w':=Kept.of_grown E;cases a:v.ownBlock with
 |none=>
  have m:Kept NoB wr w':=o.mono (λj e=>by rw[a] at e;cases e);refine⟨h.same m,λy f l' t=>t.kept h.byt m (λ_ e=>e.elim),by rw[<-a];exact o⟩
 |some b=>
  obtain⟨R,S⟩:=u.lt b a;obtain⟨cs,J⟩:=u.ty b a;obtain⟨c,fz,K⟩:=h.byt;have d:Kept (λj=>j=b) wr w':=o.mono (λj e=>by rw[a] at e;cases e;rfl);have i:NoT wr b:=by
   cases H:C with
   |nil=>rw[O H] at a;simp[Value.ownBlock] at a
   |cons t T=>
    subst H;have A:∃n c,v=.slice (some ⟨b,0,none⟩) n c:=by
     rcases u.2 with⟨rfl,_⟩|⟨g',M,I,rfl,_⟩
     · simp[Value.ownBlock] at a
     · simp[Value.ownBlock] at a;subst a;exact⟨_,_,rfl⟩
    obtain⟨f,V,rfl⟩:=A;have k:=u.cells (g:=b) rfl 0 (.int .u8 (t.s:Int)) (by simp[U.clr]);rw[U.nadd_at,Aa] at k;exact⟨_,k,λz=>⟨λe=>(by cases e),λe=>(by cases e)⟩⟩
  refine⟨h.other d (by omega) (by omega) (nA J K (by decide)) i,λy f l' t=>t.keptN d (λj e=>by rw[e];exact i),by rw[<-a];exact o⟩
end
section
variable {w:World} {B g q r D L p:Nat} {s:ByteArray} {x:St} {l:Nat->Nat}
theorem LS.grow{w a J w4:World}{r B g q D L N p:Nat}{s:ByteArray}{i:St}{l:Nat->Nat}{F:Except Nat (List Nat×St)}{all2:List Nat}{v K:Value}{c:List Rn}{t:Rn}(W:B<=g)(Q:g<w.heap.size)(P:q<w.heap.size)
 (T:∃f,(f=r\/w.heap.size<=f)/\In a B g q f s D L i/\Tb a f p l 19) (M:Kept (Ch g q r) w a) (X:TB B a) (C:U.Owr w.heap.size a v c) (m:c=[]->v=.slice none 0 0) (d:Below a.heap.size a J)
 (E:U.Owr w.heap.size w4 K (c++[t])) (y:J.grownBy w4 v.ownBlock) (Y:∀b,unp N [] ((c++[t])++b)=unp N all2 b) (R:(c++[t]).length<=all2.length) (A:∀I∈c++[t],I.s<=18/\I.e<=127) (H:all2.length<=N)
 (u:∃k,8*s.size - i.1<k/\loopR (len1 l N) k all2 s D L i=F):LS w r B g q s D L N p l F all2 K i w4:=by
 obtain⟨f,o,O,V⟩:=T;have hs:=M.size;obtain⟨S,G,h⟩:=(O.below d).runs (C.below d) m Q P y;have n:Below B a w4:=(d.mono (by omega)).trans (h.below (by have:=d.size;omega) (λj e=>by have:=(C.lt j e).1;omega));refine⟨⟨f,o,S,G _ _ _ (V.kept O.byt (Kept.of_below d) (λ_ e=>e.elim))⟩,(M.trans (Kept.of_below d) (λ_ e=>e.elim)).trans h (λj e=> .inr (C.lt j e).1),X.go n,⟨c++[t],E,λe=>absurd e (by simp),Y,R,A⟩,H,u⟩
theorem rH{W:World}(h:TB B W):U.Tab W:=h.here.1
theorem JJ(h:In w B g q r s D L x)(hs:s.size<=100000)(ht:TB B w)(tt:Tb w r p l 19)(N K:Nat)(hN:N<=400)(hK:8*s.size - x.1<K):
 Calls prog 213 #[.pointer (some ⟨g,0,none⟩),.pointer (some ⟨p,0,none⟩),.int .i64 N] w (Out w B g q r s D L (loopR (len1 l N) K [] s D L x) λall e w'=>zS w N all e w'):=by
 generalize hF:loopR (len1 l N) K [] s D L x=F;have am:LS w r B g q s D L N p l F [] (.slice none 0 0) x w:=⟨⟨r,.inl rfl,h,tt⟩,Kept.refl _ _,ht,⟨[],U.Owr.nil _ _,λ_=>rfl,λ_=>rfl,qR,λ_ h=>absurd h (by simp)⟩,qZ,K,hK,hF⟩;have hg:=h.glt;have hq:=h.rd.lt;have au:=qH am;clear h ht tt hF am;go_enter func213,ntmps213;go_wp2_with fail
 go_loopw [7,8] (λv i wr=> ∃ (all:List Nat) (x':St),i=.int .i64 all.length/\LS w r B g q s D L N p l F all v x' wr) (λ_ i _=>N - (intOf i).toNat)
 case atStart=>exact⟨[],x,rfl,au.o⟩
 case round=>
  obtain⟨all,x',rfl,hS⟩:=hrel;clear au;have ay:B<=g:=(by obtain⟨r1,_,i1,_⟩:=hS.ex;exact i1.gb);generalize hn:all.length=n;have aN:n<=N:=(by have:=hS.le;omega);obtain⟨k,hk,V⟩:=hS.fu;obtain⟨k,rfl⟩:∃j,k=j+1:=⟨k - 1,by omega⟩
  have aA:x'.1<=8*s.size:=(by obtain⟨r1,_,i1,_⟩:=hS.ex;exact i1.rd.le);have HS:=qH hS;by_cases aM:n<N
  · have Q:=hS.run hs hg hq
    cases hr:rM l s D L x' with
    |error c=>
     have af:F=.error c:=(by rw[<-V];exact bI (GM (by omega) hr));subst af;simp only[hr] at Q;have I:=qH Q;clear Q hr V hk hS hn;go_wp2_with (go_at_call 255;(with_reducible refine I.o.mono ?_);rintro e P ⟨rfl,k1⟩;have K1:=qH k1;clear k1);exact⟨rfl,rfl,K1.o⟩
    |ok pp=>
     obtain⟨⟨y,e⟩,x1⟩:=pp;simp only[hr] at Q;obtain⟨hy,he,aD,ax,a6⟩:=FX hr aA;have J:=GL (all:=all) (by omega:¬N<=all.length) hr;have HT:=qH (λ(W:World) (hT:U.Tab W)=>U.times_any y e W hT (by omega) (by omega));obtain⟨T,hT⟩:∃T,tms ⟨y,e⟩=T:=⟨_,rfl⟩
     have aF:T<=138:=(by rw[<-hT];exact zY _);rw[hT] at HT J a6;generalize aB:(decide (0<T))=bt at HT;have I:=qH (show Calls prog 255 #[.pointer (some ⟨g,0,none⟩),.pointer (some ⟨p,0,none⟩)] wr λe' w'=>e'=.returned (.agg #[.int .u8 (y:Nat),.int .u8 (e:Nat)])/\(∃r1,(r1=r\/w.heap.size<=r1)/\In w' B g q r1 s D L x1/\Tb w' r1 p l 19)/\Kept (Ch g q r) w w'/\TB B w'/\∀Y,U.Owr w.heap.size wr u7 Y->U.Owr w.heap.size w' u7 Y from Q);clear Q hr aB hS;obtain⟨m,hm⟩:∃m,N - n=m:=⟨_,rfl⟩
     have aJ:(N:Int) - (n:Int)=(m:Int):=(by omega);by_cases G:(y=16/\all=[])\/N<all.length+T
     · rw[A7 G] at J
       have af:F=.error 162:=(by rw[<-V];exact bI J);subst af;clear J V hk;have X:all=[]↔n=0:=(by rw[<-hn];exact⟨λe=>by rw[e];rfl,λe=>DH.1 e⟩);have H:(y=16/\n=0)\/m<T:=(by rcases G with⟨a,b⟩|b;exact .inl ⟨a,X.1 b⟩;exact .inr (by omega));clear G X hn hT;by_cases M:y=16
       · have e1:((y:Int)==16)=true:=by rw[AG];omega
         clear M;by_cases a5:n=0
         · subst a5
           clear H a6
           go_wp2_with (first
            |(go_at_call 255;(with_reducible refine I.o.mono ?_);rintro e' P ⟨rfl,Z,q2,S,q4⟩;obtain⟨Q1,Q2,Q3,Q4⟩:=qh4 Z q2 S q4;have C:=rH S;have R:=qH C;clear Z q2 S q4 C)
            |(go_at_call 256;(with_reducible refine(HT.o _ (U.Tab.below R.o (qL) qR)).mono ?_);rintro e' w2 ⟨rfl,O⟩;have u:=heap_alloc_new P (.cells #[.int .u8 (y:Nat),.int .u8 (e:Nat)] 225);have d:=(O.block P.heap.size (by simp)).trans u;have ab:=(an d).1;have a8:=(an d).2.1;clear u d;have B2:=qH O;clear O)
            |(go_at_call 171;(with_reducible refine(bF _).mono ?_);rintro e' w3 ⟨rfl,k3⟩;have K3:=qH k3;clear k3))
           exact⟨rfl,rfl,((Q2.o.alloc _).trans (Kept.of_below B2.o) (λ_ e=>e.elim)).trans K3.o (λ_ e=>e.elim)⟩
         · have a3:m<T:=H.resolve_left (λq=>a5 q.2)
           have d1:((n:Int)==0)=false:=(by rw[qN];omega);have d4:decide (m<T)=true:=q9T a3;clear H a6 a5 a3
           go_wp2_with (first
            |(go_at_call 255;(with_reducible refine I.o.mono ?_);rintro e' P ⟨rfl,Z,q2,S,q4⟩;obtain⟨Q1,Q2,Q3,Q4⟩:=qh4 Z q2 S q4;have C:=rH S;have R:=qH C;clear Z q2 S q4 C)
            |(go_at_call 256;(with_reducible refine(HT.o _ (U.Tab.below R.o (qL) qR)).mono ?_);rintro e' w2 ⟨rfl,O⟩;have u:=heap_alloc_new P (.cells #[.int .u8 (y:Nat),.int .u8 (e:Nat)] 225);have d:=(O.block P.heap.size (by simp)).trans u;have ab:=(an d).1;have a8:=(an d).2.1;clear u d;have B2:=qH O;clear O)
            |(go_at_call 171;(with_reducible refine(bF _).mono ?_);rintro e' w3 ⟨rfl,k3⟩;have K3:=qH k3;clear k3))
           exact⟨rfl,rfl,((Q2.o.alloc _).trans (Kept.of_below B2.o) (λ_ e=>e.elim)).trans K3.o (λ_ e=>e.elim)⟩
       · have a3:m<T:=H.resolve_left (λq=>M q.1)
         have d1:((y:Int)==16)=false:=(by rw[qN];omega);have d4:decide (m<T)=true:=q9T a3;clear H a6 M a3
         go_wp2_with (first
          |(go_at_call 255;(with_reducible refine I.o.mono ?_);rintro e' P ⟨rfl,Z,q2,S,q4⟩;obtain⟨Q1,Q2,Q3,Q4⟩:=qh4 Z q2 S q4;have C:=rH S;have R:=qH C;clear Z q2 S q4 C)
          |(go_at_call 256;(with_reducible refine(HT.o _ (U.Tab.below R.o (qL) qR)).mono ?_);rintro e' w2 ⟨rfl,O⟩;have u:=heap_alloc_new P (.cells #[.int .u8 (y:Nat),.int .u8 (e:Nat)] 225);have d:=(O.block P.heap.size (by simp)).trans u;have ab:=(an d).1;have a8:=(an d).2.1;clear u d;have B2:=qH O;clear O)
          |(go_at_call 171;(with_reducible refine(bF _).mono ?_);rintro e' w3 ⟨rfl,k3⟩;have K3:=qH k3;clear k3))
         exact⟨rfl,rfl,((Q2.o.alloc _).trans (Kept.of_below B2.o) (λ_ e=>e.elim)).trans K3.o (λ_ e=>e.elim)⟩
     · rw[A0 G] at J
       have ad:=(cu (k:=k) J).symm.trans V;have X:all=[]↔n=0:=(by rw[<-hn];exact⟨λe=>by rw[e];rfl,λe=>DH.1 e⟩);have a1:¬(y=16/\n=0):=λq=>G (.inl ⟨q.1,X.2 q.2⟩)
       have a7:¬m<T:=λq=>G (.inr (by omega))
       obtain⟨Y,ho,a9,hu,ac,a4⟩:=HS.o.rs;have aK:Y.length<=400:=(by omega);have ah:∀rest,unp N [] ((Y++[⟨y,e⟩])++rest)=unp N (all++List.replicate T (vlr all ⟨y,e⟩)) rest:=λrest=>by
        rw[qD,hu ([(⟨y,e⟩:Rn)]++rest)];have:=ei (n:=N) (out:=all) (r:=⟨y,e⟩) (L:=rest) (by rw[hT];exact a6) (λq=>G (.inl q)) (by rw[hT];omega);rw[hT] at this;exact this
       have ai:(all++List.replicate T (vlr all ⟨y,e⟩)).length=n+T:=(by rw[qA,AP,hn]);generalize ae:all++List.replicate T (vlr all ⟨y,e⟩)=all2 at ad ah ai;obtain⟨av,HU,a0,HO,aq,ao,al,aa⟩:=qh8 ad ah ai ho a9 a4 ac hn;have ar:8*s.size - x1.1<k:=(by omega);have aH:n+T<=N:=(by omega);obtain⟨n3,aj⟩:∃n3,n+T=n3:=⟨_,rfl⟩
       have aI:(n:Int)+(T:Int)=(n3:Int):=(by omega);clear J V hk G X ho a9 hu ac a4 ad ah ai ae hn hT aD ax;have aL:decide (m<T)=false:=qF a7;by_cases M:y=16
       · have a5:¬n=0:=λq=>a1 ⟨M,q⟩
         have e1:((y:Int)==16)=true:=(by rw[AG];omega);have d1:((n:Int)==0)=false:=(by rw[qN];omega);clear M a1 a7 a5
         go_wp2_with (first
          |(go_at_call 255;(with_reducible refine I.o.mono ?_);rintro e' P ⟨rfl,Z,q2,S,q4⟩;obtain⟨Q1,Q2,Q3,Q4⟩:=qh4 Z q2 S q4;have C:=rH S;have R:=qH C;clear Z q2 S q4 C)
          |(go_at_call 256;(with_reducible refine(HT.o _ (U.Tab.below R.o (qL) qR)).mono ?_);rintro e' w2 ⟨rfl,O⟩;have u:=heap_alloc_new P (.cells #[.int .u8 (y:Nat),.int .u8 (e:Nat)] 225);have d:=(O.block P.heap.size (by simp)).trans u;have ab:=(an d).1;have a8:=(an d).2.1;have E:=((Below.refl P.heap.size P).alloc qR _).trans (O.mono (by simp));have a2:=qH (E.alloc E.size (.cells #[.int .u8 (y:Nat),.int .u8 (e:Nat)] 225));have ap:=qK Q2.o.size E.size;clear u d E;have B2:=qH O;clear O)
          |(at_builtin;refine U.wpList_ar rfl (.tmp 40) (.tmp 42) rfl w.heap.size u7 Y rfl ((Q4.o Y HO.o).below a2.o) w2.heap.size 1 y e rfl ⟨by simp,by simp⟩ (by omega) (by simp;omega) ?_;intro v9 w4 g1 g2 g3;have ag:=qH (LS.grow (N:=N) (F:=F) (all2:=all2) ay hg hq Q1.o Q2.o Q3.o (Q4.o Y HO.o) aq.o a2.o g1 g2 HU.o (by rw[qA,a0.o];have:=al.o;rw[aa.o] at this;simp only[Bn];omega) (λt9 h9=>by rcases AH.1 h9 with q9|q9;exact ao.o t9 q9;obtain rfl:=Bc.1 q9;exact⟨hy,he⟩) (by rw[a0.o];omega) ⟨k,ar,av.o⟩);clear g1 g2 g3))
         go_roundw
         case rel=>exact⟨all2,x1,by rw[a0.o,aj],ag.o⟩
         case measure=>simp[intOf];omega
       · skip
         have e1:((y:Int)==16)=false:=(by rw[qN];omega);clear M a1 a7
         go_wp2_with (first
          |(go_at_call 255;(with_reducible refine I.o.mono ?_);rintro e' P ⟨rfl,Z,q2,S,q4⟩;obtain⟨Q1,Q2,Q3,Q4⟩:=qh4 Z q2 S q4;have C:=rH S;have R:=qH C;clear Z q2 S q4 C)
          |(go_at_call 256;(with_reducible refine(HT.o _ (U.Tab.below R.o (qL) qR)).mono ?_);rintro e' w2 ⟨rfl,O⟩;have u:=heap_alloc_new P (.cells #[.int .u8 (y:Nat),.int .u8 (e:Nat)] 225);have d:=(O.block P.heap.size (by simp)).trans u;have ab:=(an d).1;have a8:=(an d).2.1;have E:=((Below.refl P.heap.size P).alloc qR _).trans (O.mono (by simp));have a2:=qH (E.alloc E.size (.cells #[.int .u8 (y:Nat),.int .u8 (e:Nat)] 225));have ap:=qK Q2.o.size E.size;clear u d E;have B2:=qH O;clear O)
          |(at_builtin;refine U.wpList_ar rfl (.tmp 40) (.tmp 42) rfl w.heap.size u7 Y rfl ((Q4.o Y HO.o).below a2.o) w2.heap.size 1 y e rfl ⟨by simp,by simp⟩ (by omega) (by simp;omega) ?_;intro v9 w4 g1 g2 g3;have ag:=qH (LS.grow (N:=N) (F:=F) (all2:=all2) ay hg hq Q1.o Q2.o Q3.o (Q4.o Y HO.o) aq.o a2.o g1 g2 HU.o (by rw[qA,a0.o];have:=al.o;rw[aa.o] at this;simp only[Bn];omega) (λt9 h9=>by rcases AH.1 h9 with q9|q9;exact ao.o t9 q9;obtain rfl:=Bc.1 q9;exact⟨hy,he⟩) (by rw[a0.o];omega) ⟨k,ar,av.o⟩);clear g1 g2 g3))
         go_roundw
         case rel=>exact⟨all2,x1,by rw[a0.o,aj],ag.o⟩
         case measure=>simp[intOf];omega
  · obtain rfl:n=N:=by omega
    have aE:F=.ok (all,x'):=(by rw[<-V];exact aR (yH (by omega)));subst aE;obtain⟨Y,ho,a9,hu,ac,a4⟩:=hS.rs;obtain⟨A,c,hv,hI⟩:=ho.rns (λt h9=>by have:=a4 t h9;omega) (by unfold maxLen;omega);subst hv;have aw:unp n [] Y=(0,all):=by
     have:=hu [];rw[Az] at this;rw[this,iK (by omega)]
    have hU:=U.unpack_any A Y.length c Y n wr (rH hS.tb) hI (by omega) (by omega);rw[aw] at hU;unfold U.UnC at hU;rw[hn] at hU;obtain⟨r1,ak,i1,t1⟩:=hS.ex;obtain⟨HU,aC,aG,az,aa⟩:=qh5 hU i1 ak hS.kp hn;clear V hk hu ac a4 ho a9 hI aw hU i1 t1 ak hS hn;go_wp2_with (go_at_call 257;(with_reducible refine HU.o.mono ?_);rintro e' P ⟨A',c',rfl,y1,y2,y3⟩;obtain⟨Y1,Y2,Y3⟩:=qh3 y1 y2 y3;clear y1 y2 y3);go_ret;exact⟨⟨A',c',rfl,aa.o,Y1.o,Y2.o⟩,az.o.trans (Kept.of_below Y3.o) (λ_ e=>e.elim),r1,aG.o,aC.o.below Y3.o⟩
end
theorem JW(K:Nat)(s:ByteArray)(D L:Nat)(x:St):dyn K s D L x=bnd (bits 5) (λa=>bnd (bits 5) λb=>bnd (bits 4) λk=>if 286<a+257\/30<b+1 then fl 162 else bnd (ltR (k+4)) λo=>bnd (loopR (len1 o (a+257+(b+1))) K []) λall=>tabR all (a+257) (b+1)) s D L x:=by
 unfold dyn;congr 1;funext a;congr 1;funext b;congr 1;funext k
 split
 · rfl
 · funext s D L x
   unfold ltR;cases c:ownR (k+4) 0 (λ_=>0) s D L x with
   |error e=>rw[ak c,ak (ak c)]
   |ok p=>
    rw[a8 c];by_cases d:kind p.1 19≠2
    · rw[A7 d,ak (e:=162) (by rw[a8 c,A7 d];rfl)]
      rfl
    · rw[A0 d,a8 (a:=p.1) (y:=p.2) (by rw[a8 c,A0 d];rfl)]
def wL(w:World)(B g q r:Nat)(s:ByteArray)(D L:Nat)(l:Nat->Nat)(n:Nat)(d:Nat->Nat)(m:Nat)(y:St)(e:Ending)(w':World):Prop:=
 ∃p1 p2 r',e=.returned (.agg #[.pointer (some ⟨p1,0,none⟩),.pointer (some ⟨p2,0,none⟩)])/\Kept (Ch g q r) w w'/\(r'=r\/w.heap.size<=r')/\In w' B g q r' s D L y/\Tb w' r' p1 l n/\Tb w' r' p2 d m
theorem eV{w:World}{b o N:Nat}{all:List Nat}(h:U.IsBys w (some ⟨b,o,none⟩) N all)(i n:Nat)(k:i+n<=N):av w .u8 (some ⟨b,o+i,none⟩) n (λj=>((all.getD (i+j) 0:Nat):Int)):=λm=>by
 obtain⟨b',d,e,a,c⟩:=h.at (by omega);injection e with e
 injection e with e1 e2
 subst e1;subst e2;exact⟨b,o+i,rfl,a,λj f=>by have:=c (i+j) (by omega);rw[<-AC] at this;exact this⟩
section
variable {w0 w:World} {B g q r D L:Nat} {s:ByteArray} {x:St}
theorem Res.lt(h:Res w0 B g q r s D L x w)(hs:s.size<=100000)(k:Nat)(n:k<=19):
 Calls prog 214 #[.pointer (some ⟨g,0,none⟩),.int .i64 k] w λe w'=>
  match ltR k s D L x with
  |.ok p=>KM w0 B g q r s D L p e w'
  |.error c=>e=.panicked (flt c)/\Kept (Ch g q r) w0 w':=by
 obtain⟨b,G,a,y⟩:=h;refine(mq y hs k n).mono λe w' o=> ?_
 have C:=b.size;cases i:ltR k s D L x with
 |error c=>rw[i] at o;exact⟨o.1,Kept.ch_trans b o.2 a⟩
 |ok p=>
  rw[i] at o;obtain⟨t,u,A,j,d,m,E⟩:=o;refine⟨t,u,A,Kept.ch_trans b j a,?_,m,E⟩;rcases d with e|e
  · rw[e];exact a
  · exact .inr (by omega)
theorem Et{d p:Nat}{o:Nat->Nat}(h:Kept (Ch g q r) w0 w)(b:d=r\/w0.heap.size<=d)(n:In w B g q d s D L x)(j:Tb w d p o 19)(hs:s.size<=100000)(m:TB B w)(N K:Nat)(k:N<=400)(t:8*s.size - x.1<K):
 Calls prog 213 #[.pointer (some ⟨g,0,none⟩),.pointer (some ⟨p,0,none⟩),.int .i64 N] w (Out w0 B g q r s D L (loopR (len1 o N) K [] s D L x) λall e w'=>zS w N all e w'):=by
 refine(JJ n hs m j N K k t).mono λe w' a=> ?_
 cases i:loopR (len1 o N) K [] s D L x with
 |error c=>rw[i] at a;exact⟨a.1,Kept.ch_trans h a.2 b⟩
 |ok p=>rw[i] at a;exact⟨a.1,Res.trans (y:=x) h b a.2⟩
theorem vk(h:In w B g q r s D L x)(hs:s.size<=100000)(ht:TB B w)(K:Nat)(hK:8*s.size - x.1<K):
 Calls prog 169 #[.pointer (some ⟨g,0,none⟩)] w λe w'=>
  match dyn K s D L x with
  |.ok p=>wL w B g q r s D L (lit p.1.1) p.1.2.1 (dis p.1.1 p.1.2.1) p.1.2.2 p.2 e w'
  |.error c=>e=.panicked (flt c)/\Kept (Ch g q r) w w':=by
 generalize d:dyn K s D L x=R;rw[JW] at d;have X:Kept NoB w (w.alloc (.cells #[.pointer none,.pointer none] 177)):=(Kept.refl _ _).alloc _;have S:(w.alloc (.cells #[.pointer none,.pointer none] 177)).heap[w.heap.size]? =some (.cells #[.pointer none,.pointer none] 177 (0,0)):=heap_alloc_new _ _;have ac:(w.alloc (.cells #[.pointer none,.pointer none] 177)).heap.size=w.heap.size+1:=(by simp);generalize ap:w.alloc (.cells #[.pointer none,.pointer none] 177)=w0 at X S ac;generalize hb:w.heap.size=b at S ac;have aD:g<b:=(by have:=h.glt;omega);have aG:q<b:=(by have:=h.rd.lt;omega);have aE:r<b:=(by have:=h.rlt;omega);have i0:=h.same X;have a1:TB B w0:=ht.go (h.bl (X.none _));have C:=qH i0.start;have af:=qH (λ(W:World) (k:Kept (Ch g q r) w0 W)=>(show TB B W from a1.go (i0.bl k)))
 have HF:=qH (λ(W:World) (k:Kept (Ch g q r) w0 W)=>(show W.heap[b]? =some (.cells #[.pointer none,.pointer none] 177 (0,0)) from
  (k.block b (by omega) (λe=>by rcases e with e|e|e<;>omega)).trans S))
 have HE:=qH (λ(W:World) (k:Kept (Ch g q r) w0 W)=>(show Kept (Ch g q r) w W from(X.none _).trans k (λ_ e=> .inl e)));have ah:=qH (λ(y:Nat) (hy:x.1<=y)=>(show 8*s.size - y<K from by omega));clear h ht X S i0 a1;cases h1:bits 5 s D L x with
 |error c=>
  rw[ak h1] at d;subst d
  have u:=qH (λ(W:World) (o:Res w0 B g q r s D L x W)=>(show Calls prog 166 #[.pointer (some ⟨g,0,none⟩),.int .i64 5] W λe w'=>e=.panicked (flt c)/\Kept (Ch g q r) w0 w' from by
   have:=o.lift (λr i=>pE i hs);rw[h1] at this;exact this))
  clear h1;go_enter func169,ntmps169
  go_wp2_with (first
   |(go_at_call 166;(with_reducible refine(u.o _ C.o).mono ?_);rintro e w1 ⟨rfl,k1⟩;have K1:=qH k1;clear k1))
  exact⟨rfl,rfl,HE.o _ K1.o⟩
 |ok pp=>
  obtain⟨a,x1⟩:=pp;rw[a8 h1] at d;obtain⟨aA,ab⟩:=bu h1 32 (by decide);have aC:x.1<=x1.1:=by rw[ab];simp only;omega
  have u:=qH (λ(W:World) (o:Res w0 B g q r s D L x W)=>(show Calls prog 166 #[.pointer (some ⟨g,0,none⟩),.int .i64 5] W λe w'=>e=.returned (.int .i64 a)/\Res w0 B g q r s D L x1 w' from by
   have:=o.lift (λr i=>pE i hs);rw[h1] at this;exact this))
  clear h1 ab;cases h2:bits 5 s D L x1 with
  |error c=>
   rw[ak h2] at d;subst d;have A:=qH (λ(W:World) (o:Res w0 B g q r s D L x1 W)=>(show Calls prog 166 #[.pointer (some ⟨g,0,none⟩),.int .i64 5] W λe w'=>e=.panicked (flt c)/\Kept (Ch g q r) w0 w' from by
   have:=o.lift (λr i=>pE i hs);rw[h2] at this;exact this))
   clear h2;go_enter func169,ntmps169
   go_wp2_with (first
    |(go_at_call 166;(with_reducible refine(u.o _ C.o).mono ?_);rintro e w1 ⟨rfl,m⟩;have J:=qH m;clear m)
    |(go_at_call 166;(with_reducible refine(A.o _ J.o).mono ?_);rintro e w2 ⟨rfl,k2⟩;have K2:=qH k2;clear k2))
   exact⟨rfl,rfl,HE.o _ K2.o⟩
  |ok pp=>
   obtain⟨bd,x2⟩:=pp;rw[a8 h2] at d;obtain⟨aK,ad⟩:=bu h2 32 (by decide);have ay:x1.1<=x2.1:=(by rw[ad];simp only;omega);have A:=qH (λ(W:World) (o:Res w0 B g q r s D L x1 W)=>(show Calls prog 166 #[.pointer (some ⟨g,0,none⟩),.int .i64 5] W λe w'=>e=.returned (.int .i64 bd)/\Res w0 B g q r s D L x2 w' from by
   have:=o.lift (λr i=>pE i hs);rw[h2] at this;exact this))
   clear h2 ad;cases h3:bits 4 s D L x2 with
   |error c=>
    rw[ak h3] at d;subst d;have I:=qH (λ(W:World) (o:Res w0 B g q r s D L x2 W)=>(show Calls prog 166 #[.pointer (some ⟨g,0,none⟩),.int .i64 4] W λe w'=>e=.panicked (flt c)/\Kept (Ch g q r) w0 w' from by
   have:=o.lift (λr i=>ES i hs);rw[h3] at this
   exact this))
    clear h3;go_enter func169,ntmps169
    go_wp2_with (first
     |(go_at_call 166;(with_reducible refine(u.o _ C.o).mono ?_);rintro e w1 ⟨rfl,m⟩;have J:=qH m;clear m)
     |(go_at_call 166;(with_reducible refine(A.o _ J.o).mono ?_);rintro e w2 ⟨rfl,n⟩;have Q:=qH n;clear n)
     |(go_at_call 166;(with_reducible refine(I.o _ Q.o).mono ?_);rintro e w3 ⟨rfl,k3⟩;have K3:=qH k3;clear k3))
    exact⟨rfl,rfl,HE.o _ K3.o⟩
   |ok pp=>
    obtain⟨k,x3⟩:=pp;rw[a8 h3] at d;obtain⟨ar,a7⟩:=bu h3 16 (by decide);have aF:x2.1<=x3.1:=(by rw[a7];simp only;omega);have I:=qH (λ(W:World) (o:Res w0 B g q r s D L x2 W)=>(show Calls prog 166 #[.pointer (some ⟨g,0,none⟩),.int .i64 4] W λe w'=>e=.returned (.int .i64 k)/\Res w0 B g q r s D L x3 w' from by
   have:=o.lift (λr i=>ES i hs);rw[h3] at this
   exact this))
    clear h3 a7;obtain⟨lt,a5⟩:∃lt,a+257=lt:=⟨_,rfl⟩
    obtain⟨ds,hds⟩:∃ds,bd+1=ds:=⟨_,rfl⟩
    obtain⟨kn,a4⟩:∃kn,k+4=kn:=⟨_,rfl⟩
    rw[a5,hds,a4] at d;have ea:(257:Int)+(a:Int)=(lt:Int):=(by omega);have eb:(1:Int)+(bd:Int)=(ds:Int):=(by omega);have ek:(4:Int)+(k:Int)=(kn:Int):=(by omega);have aa:kn<=19:=(by omega);by_cases H:286<lt\/30<ds
    · rw[A7 H] at d
      have O:R=.error 162:=d.symm;subst O;clear d a5 hds a4;by_cases hq:286<lt
      · have d1:decide ((286:Int)<(lt:Int))=true:=q9T (by omega)
        clear H hq;go_enter func169,ntmps169
        go_wp2_with (first
         |(go_at_call 166;(with_reducible refine(u.o _ C.o).mono ?_);rintro e w1 ⟨rfl,m⟩;have J:=qH m;clear m)
         |(go_at_call 166;(with_reducible refine(A.o _ J.o).mono ?_);rintro e w2 ⟨rfl,n⟩;have Q:=qH n;clear n)
         |(go_at_call 166;(with_reducible refine(I.o _ Q.o).mono ?_);rintro e w3 ⟨rfl,G⟩;have V:=qH G;clear G)
         |(go_at_call 171;(with_reducible refine(bF _).mono ?_);rintro e w4 ⟨rfl,E⟩;have T:=qH E;clear E))
        exact⟨rfl,rfl,HE.o _ (V.o.end_ T.o)⟩
      · have am:=H.resolve_left hq
        have d1:decide ((286:Int)<(lt:Int))=false:=qF (by omega);have d3:decide ((30:Int)<(ds:Int))=true:=q9T (by omega);clear H hq am;go_enter func169,ntmps169
        go_wp2_with (first
         |(go_at_call 166;(with_reducible refine(u.o _ C.o).mono ?_);rintro e w1 ⟨rfl,m⟩;have J:=qH m;clear m)
         |(go_at_call 166;(with_reducible refine(A.o _ J.o).mono ?_);rintro e w2 ⟨rfl,n⟩;have Q:=qH n;clear n)
         |(go_at_call 166;(with_reducible refine(I.o _ Q.o).mono ?_);rintro e w3 ⟨rfl,G⟩;have V:=qH G;clear G)
         |(go_at_call 171;(with_reducible refine(bF _).mono ?_);rintro e w4 ⟨rfl,E⟩;have T:=qH E;clear E))
        exact⟨rfl,rfl,HE.o _ (V.o.end_ T.o)⟩
    · rw[A0 H] at d
      have aH:lt<=286:=(by omega);have aw:ds<=30:=(by omega);have d1:decide ((286:Int)<(lt:Int))=false:=qF (by omega);have d3:decide ((30:Int)<(ds:Int))=false:=qF (by omega);clear H a5 hds a4;generalize hN:lt+ds=N at d;have eN:(lt:Int)+(ds:Int)=(N:Int):=(by omega);have aq:N<=316/\258<=N:=(by omega);cases h4:ltR kn s D L x3 with
      |error c=>
       rw[ak h4] at d;subst d
       have HT:=qH (λ(W:World) (o:Res w0 B g q r s D L x3 W)=>(show Calls prog 214 #[.pointer (some ⟨g,0,none⟩),.int .i64 kn] W λe w'=>e=.panicked (flt c)/\Kept (Ch g q r) w0 w' from by
        have:=o.lt hs kn aa;simp only[h4] at this;exact this))
       clear h4;go_enter func169,ntmps169
       go_wp2_with (first
        |(go_at_call 166;(with_reducible refine(u.o _ C.o).mono ?_);rintro e w1 ⟨rfl,m⟩;have J:=qH m;clear m)
        |(go_at_call 166;(with_reducible refine(A.o _ J.o).mono ?_);rintro e w2 ⟨rfl,n⟩;have Q:=qH n;clear n)
        |(go_at_call 166;(with_reducible refine(I.o _ Q.o).mono ?_);rintro e w3 ⟨rfl,G⟩;have V:=qH G;clear G)
        |(go_at_call 214;(with_reducible refine(HT.o _ V.o).mono ?_);rintro e w4 ⟨rfl,E⟩;have T:=qH E;clear E))
       exact⟨rfl,rfl,HE.o _ T.o⟩
      |ok pp=>
       obtain⟨o,x4⟩:=pp;rw[a8 h4] at d;have aj:=(a9.bnd (a9.ownR kn 0 _) (λo=>a9.ite (a9.fl 162) (a9.pur o))).mono h4
       have HT:=qH (λ(W:World) (o':Res w0 B g q r s D L x3 W)=>(show Calls prog 214 #[.pointer (some ⟨g,0,none⟩),.int .i64 kn] W λe w'=>KM w0 B g q r s D L (o,x4) e w' from by
        have:=o'.lt hs kn aa;simp only[h4] at this;exact this))
       unfold KM at HT;have ag:8*s.size - x4.1<K:=ah.o _ (by omega);clear h4 aj;cases h5:loopR (len1 o N) K [] s D L x4 with
       |error c=>
        rw[ak h5] at d;subst d
        have HL:=qH (λ(W:World) (t r1:Nat) (hk:Kept (Ch g q r) w0 W) (a3:r1=r\/w0.heap.size<=r1) (i1:In W B g q r1 s D L x4) (t1:Tb W r1 t o 19)=>(show Calls prog 213 #[.pointer (some ⟨g,0,none⟩),.pointer (some ⟨t,0,none⟩),.int .i64 N] W λe w'=>e=.panicked (flt c)/\Kept (Ch g q r) w0 w' from by
         have:=Et hk a3 i1 t1 hs (af.o _ hk) N K (by omega) ag;rw[h5] at this;exact this))
        clear h5;go_enter func169,ntmps169
        go_wp2_with (first
         |(go_at_call 166;(with_reducible refine(u.o _ C.o).mono ?_);rintro e w1 ⟨rfl,m⟩;have J:=qH m;clear m)
         |(go_at_call 166;(with_reducible refine(A.o _ J.o).mono ?_);rintro e w2 ⟨rfl,n⟩;have Q:=qH n;clear n)
         |(go_at_call 166;(with_reducible refine(I.o _ Q.o).mono ?_);rintro e w3 ⟨rfl,G⟩;have V:=qH G;clear G)
         |(go_at_call 214;(with_reducible refine(HT.o _ V.o).mono ?_);rintro e w4 ⟨t4,r4,rfl,E,g4,i4,Y⟩;obtain⟨T,G4,I4,U4⟩:=qh4 E g4 i4 Y;clear E g4 i4 Y)
         |(go_at_call 213;(with_reducible refine(HL.o _ _ _ T.o G4.o I4.o U4.o).mono ?_);rintro e w5 ⟨rfl,k5⟩;have K5:=qH k5;clear k5))
        exact⟨rfl,rfl,HE.o _ K5.o⟩
       |ok pp=>
        obtain⟨all,x5⟩:=pp;rw[a8 h5] at d
        have HL:=qH (λ(W:World) (t r1:Nat) (hk:Kept (Ch g q r) w0 W) (a3:r1=r\/w0.heap.size<=r1) (i1:In W B g q r1 s D L x4) (t1:Tb W r1 t o 19)=>(show Calls prog 213 #[.pointer (some ⟨g,0,none⟩),.pointer (some ⟨t,0,none⟩),.int .i64 N] W λe w'=>zS W N all e w'/\Res w0 B g q r s D L x5 w' from by
         have:=Et hk a3 i1 t1 hs (af.o _ hk) N K (by omega) ag;rw[h5] at this;exact this))
        unfold zS at HL;clear h5;obtain⟨v,hv⟩:∃v,all.getD 256 0=v:=⟨_,rfl⟩
        unfold tabR at d;by_cases hz:v=0
        · have O:R=.error 162:=by rw[<-d,A7 (.inl (hv.trans hz))];rfl
          subst O;subst hz;clear d;go_enter func169,ntmps169
          go_wp2_with (first
           |(go_at_call 166;(with_reducible refine(u.o _ C.o).mono ?_);rintro e w1 ⟨rfl,m⟩;have J:=qH m;clear m)
           |(go_at_call 166;(with_reducible refine(A.o _ J.o).mono ?_);rintro e w2 ⟨rfl,n⟩;have Q:=qH n;clear n)
           |(go_at_call 166;(with_reducible refine(I.o _ Q.o).mono ?_);rintro e w3 ⟨rfl,G⟩;have V:=qH G;clear G)
           |(go_at_call 214;(with_reducible refine(HT.o _ V.o).mono ?_);rintro e w4 ⟨t4,r4,rfl,E,g4,i4,Y⟩;obtain⟨T,G4,I4,U4⟩:=qh4 E g4 i4 Y;clear E g4 i4 Y)
           |(go_at_call 213;(with_reducible refine(HL.o _ _ _ T.o G4.o I4.o U4.o).mono ?_);rintro e w5 ⟨⟨A5,c5,rfl,l5,Z,m5⟩,o5⟩;obtain⟨b5,q5,rfl,z5,M⟩:=Z.at (by omega);have v5:=M 256 (by omega);rw[hv] at v5;obtain⟨Y5,O5⟩:=qh2 Z o5;clear l5 Z o5 M)
           |(go_at_call 171;(with_reducible refine(bF _).mono ?_);rintro e w6 ⟨rfl,k6⟩;have K6:=qH k6;clear k6))
          exact⟨rfl,rfl,HE.o _ (O5.o.end_ K6.o)⟩
        · have az:((v:Int)==0)=false:=by rw[qN];omega
          by_cases P:¬Tbl (lit all) lt\/¬Tbl (dis all lt) ds
          · have O:R=.error 162:=by rw[<-d,A7 (.inr P)];rfl
            subst O;clear d;have a0:=qH (λ(W:World) (c1 c2 b9 o9:Nat) (hB:U.IsBys W (some ⟨b9,o9,none⟩) N all)=>lK (some ⟨b9,o9,none⟩) (some ⟨b9,o9+lt,none⟩) lt c1 ds c2 (lit all) (dis all lt) W (by unfold maxLen;omega) (by unfold maxLen;omega) (λi=>hB.le i) (λi=>hB.le (lt+i)) (by have:=eV hB 0 lt (by omega);simp only[Aa,AI] at this;exact this) (eV hB lt ds (by omega)) P);unfold gK at a0;clear P;go_enter func169,ntmps169
            go_wp2_with (first
             |(go_at_call 166;(with_reducible refine(u.o _ C.o).mono ?_);rintro e w1 ⟨rfl,m⟩;have J:=qH m;clear m)
             |(go_at_call 166;(with_reducible refine(A.o _ J.o).mono ?_);rintro e w2 ⟨rfl,n⟩;have Q:=qH n;clear n)
             |(go_at_call 166;(with_reducible refine(I.o _ Q.o).mono ?_);rintro e w3 ⟨rfl,G⟩;have V:=qH G;clear G)
             |(go_at_call 214;(with_reducible refine(HT.o _ V.o).mono ?_);rintro e w4 ⟨t4,r4,rfl,E,g4,i4,Y⟩;obtain⟨T,G4,I4,U4⟩:=qh4 E g4 i4 Y;clear E g4 i4 Y)
             |(go_at_call 213;(with_reducible refine(HL.o _ _ _ T.o G4.o I4.o U4.o).mono ?_);rintro e w5 ⟨⟨A5,c5,rfl,l5,Z,m5⟩,o5⟩;obtain⟨b5,q5,rfl,z5,M⟩:=Z.at (by omega);have v5:=M 256 (by omega);rw[hv] at v5;obtain⟨Y5,O5⟩:=qh2 Z o5;clear l5 Z o5 M))
            have s1:lt<=c5:=(by omega);have s2:¬c5=lt:=(by omega);have s3:N - lt=ds:=(by omega);have s4:lt<=N:=(by omega);obtain⟨c6,ao⟩:∃c6,c5 - lt=c6:=⟨_,rfl⟩
            have a6:b<w5.heap.size:=by have:=O5.o.kept.size;omega
            go_still_tail 6,(by kernel_rfl)
            go_wp2_with (go_at_call 210;(with_reducible refine(a0.o _ c5 c6 b5 q5 (Y5.o.below ((Below.refl _ _).drew))).mono ?_);rintro e w6 ⟨rfl,b6⟩;have B6:=qH b6;clear b6);exact⟨rfl,rfl,HE.o _ ((O5.o.kept.drew).trans (Kept.of_below B6.o) (λ_ e=>e.elim))⟩
          · have O:R=.ok ((all,lt,ds),x5):=by rw[<-d,A0 (λe=>by rcases e with e|e;exact hz (hv.symm.trans e);exact P e)];rfl
            subst O;clear d;have ai:Tbl (lit all) lt:=Classical.byContradiction λe=>P (.inl e)
            have al:Tbl (dis all lt) ds:=Classical.byContradiction λe=>P (.inr e)
            have a0:=qH (λ(W:World) (c1 c2 b9 o9:Nat) (hB:U.IsBys W (some ⟨b9,o9,none⟩) N all)=>ej (some ⟨b9,o9,none⟩) (some ⟨b9,o9+lt,none⟩) lt c1 ds c2 (lit all) (dis all lt) W (λi=>hB.le i) (λi=>hB.le (lt+i)) (by have:=eV hB 0 lt (by omega);simp only[Aa,AI] at this;exact this) (eV hB lt ds (by omega)) ai al);unfold zR at a0;clear P;go_enter func169,ntmps169
            go_wp2_with (first
             |(go_at_call 166;(with_reducible refine(u.o _ C.o).mono ?_);rintro e w1 ⟨rfl,m⟩;have J:=qH m;clear m)
             |(go_at_call 166;(with_reducible refine(A.o _ J.o).mono ?_);rintro e w2 ⟨rfl,n⟩;have Q:=qH n;clear n)
             |(go_at_call 166;(with_reducible refine(I.o _ Q.o).mono ?_);rintro e w3 ⟨rfl,G⟩;have V:=qH G;clear G)
             |(go_at_call 214;(with_reducible refine(HT.o _ V.o).mono ?_);rintro e w4 ⟨t4,r4,rfl,E,g4,i4,Y⟩;obtain⟨T,G4,I4,U4⟩:=qh4 E g4 i4 Y;clear E g4 i4 Y)
             |(go_at_call 213;(with_reducible refine(HL.o _ _ _ T.o G4.o I4.o U4.o).mono ?_);rintro e w5 ⟨⟨A5,c5,rfl,l5,Z,m5⟩,o5⟩;obtain⟨b5,q5,rfl,z5,M⟩:=Z.at (by omega);have v5:=M 256 (by omega);rw[hv] at v5;obtain⟨Y5,O5⟩:=qh2 Z o5;clear l5 Z o5 M))
            have s1:lt<=c5:=(by omega);have s2:¬c5=lt:=(by omega);have s3:N - lt=ds:=(by omega);have s4:lt<=N:=(by omega);obtain⟨c6,ao⟩:∃c6,c5 - lt=c6:=⟨_,rfl⟩
            have a6:b<w5.heap.size:=by have:=O5.o.kept.size;omega
            go_region_with (go_at_call 210;(with_reducible refine(a0.o _ c5 c6 b5 q5 (Y5.o.below ((Below.refl _ _).drew))).mono ?_);(rintro e w6 ⟨p1,p2,rfl,aI,aB,b6,t6⟩;have f6:=(b6.block b a6).trans (HF.o _ O5.o.kept.drew);have av:=(an f6).1;have aJ:=(an f6).2.1;have ax:=(an f6).2.2.1;have au:=(an f6).2.2.2;obtain⟨F6,T6,B6⟩:=qh3 f6 t6 b6;clear b6 t6 f6))
            go_wp2_with fail;refine bodyPost_ret (v:=.agg #[.pointer (some ⟨p1,0,none⟩),.pointer (some ⟨p2,0,none⟩)]) (results_cell_row rfl _ _ b _ _ _ _ rfl (fh F6.o _ _) underlying177 rfl eE) rfl ?_
            obtain⟨k5,r5,ae,i5⟩:=O5.o;have a2:=i5.rlt;have i6:In w6 B g q r5 s D L x5:=(i5.same ((Kept.refl NoB w5).drew)).below B6.o;have k7:Kept (λj=>j=b) w6 ((w6.setCell ⟨b,0,none⟩ (.pointer (some ⟨p1,0,none⟩))).setCell ⟨b,1,none⟩ (.pointer (some ⟨p2,0,none⟩))):=((Kept.refl (λj=>j=b) w6).setCell ⟨b,0,none⟩ (.inl rfl) _).setCell ⟨b,1,none⟩ (.inl rfl) _;refine⟨p1,p2,r5,rfl,(HE.o _ ((k5.drew).trans (Kept.of_below B6.o) (λ_ e=>e.elim))).trans k7 (λj e=> .inr (by omega)),?_,i6.other k7 (by omega) (by omega) (by rcases ae with e|e<;>omega) ⟨_,(an F6.o).1,λz=>⟨λe=>(by cases e),λe=>(by cases e)⟩⟩,(T6.o r5 a2).1.two F6.o (λ_=>⟨λe=>(by cases e),λe=>(by cases e)⟩) _ _,(T6.o r5 a2).2.two F6.o (λ_=>⟨λe=>(by cases e),λe=>(by cases e)⟩) _ _⟩;rcases ae with e|e
            · exact .inl e
            · exact .inr (by omega)
end
theorem qc{k:Array Oper}{o:Oper}{a:Act}{w:World}{K:Act->World->Prop}{Q:Exit->Act->World->Prop}{E:Prop}(I:o.guard=none)(s x:Operand)
 (ho:o.op=.call {callee:=.builtin .append,args:= #[s,x],argTypes:= #[26,26]}) (A:Option Addr) (hs:a.eval s=.slice A 30 30) (h:av w .u8 A 30 (λ_=>((5:Nat):Int)))
 (y:Nat) (c:Nat) (T:a.eval x=.slice (some ⟨y,0,none⟩) 2 c) (O:w.cell? ⟨y,0,none⟩=some (.int .u8 5)/\w.cell? ⟨y,1,none⟩=some (.int .u8 5))
 (U:∀R C w',av w' .u8 R 32 (λ_=>((5:Nat):Int))->Kept NoB w w'->K (a.put o.dst (.slice R 32 C)) w'):
 if Region.wanted o (yielded k a.tmps)=true then Oper.wp prog o a w K Q else E:=by
 have hw:Region.wanted o (yielded k a.tmps)=true:=(by simp[Region.wanted,I]);rw[A7 hw];obtain⟨b,o9,rfl,hb,J⟩:=h (by decide);obtain⟨i,X,h2,h3,h4⟩:=V.Tx.info_of V.Tx.byteInfo;have d:∀n j u,(List.replicate n (Value.int .u8 5))[j]? =some u->j<n/\u=.int .u8 5:=λn j u f=>by
  rw[Dl] at f
  split at f
  · rename_i q;cases f;exact⟨q,rfl⟩
  · cases f
 obtain⟨v',w',m,M,r2⟩:=run_append_arg_grows (P:= prog) w 26 o.type 5 i (.int .u8 0) 1 1 underlying26 X h2 h3 h4 rfl (by decide) ⟨b,o9,none⟩ 30 30 (List.replicate 30 (.int .u8 5)) (by simp)
  (λj u f=>by obtain⟨S,rfl⟩:=d 30 j u f;rw[V.cadd_at];exact J j S)
  ⟨y,0,none⟩ 2 c (List.replicate 2 (.int .u8 5)) rfl (λj u f=>by
   obtain⟨S,rfl⟩:=d 2 j u f;rw[V.cadd_at,Aa];have G:j=0\/j=1:=(by omega);rcases G with rfl|rfl
   · exact O.1
   · exact O.2) (by omega) (by unfold maxLen;omega) (by omega)
 unfold Oper.wp execOp;simp only[ho,resolve,invoke,builtin,Sem.run_bind,Sem.run_pure,Result.andThen_ok,AV,Al,Av,hs,T,m];have e:List.replicate 30 (Value.int .u8 5)++List.replicate 2 (.int .u8 5)=List.replicate 32 (.int .u8 5):=(by rw[Du]);rw[e] at M;have Z:Kept NoB w w':=(Kept.of_grown r2).mono (λj q=>by cases q);rcases M.2 with⟨_,q⟩|⟨g',H,W,rfl,hg,hh,a0,Y,a2,a1⟩
 · cases q
 · refine U _ H w' (λ_=>⟨g',0,rfl,(qW.1 hh).1,λj G=> ?_⟩) Z
   have:=M.cells (g:=g') rfl j (.int .u8 5) (by rw[Dl,A7 G]);rw[V.cadd_at] at this;exact this
section
variable {w:World} {B g q r D L:Nat} {s:ByteArray} {x:St}
theorem In.setMade(h:In w B g q r s D L x){a b:Nat}(m:Tb w r a fx 288)(u:Tb w r b (λ_=>5) 32):
 In ((w.setCell ⟨g,3,none⟩ (.pointer (some ⟨a,0,none⟩))).setCell ⟨g,4,none⟩ (.pointer (some ⟨b,0,none⟩))) B g q r s D L x:=by
 obtain⟨f,A,n,d,o,y⟩:=h.row;have c:Kept (λj=>j=g) w ((w.setCell ⟨g,3,none⟩ (.pointer (some ⟨a,0,none⟩))).setCell ⟨g,4,none⟩ (.pointer (some ⟨b,0,none⟩))):=((Kept.refl (λj=>j=g) w).setCell ⟨g,3,none⟩ (.inl rfl) _).setCell ⟨g,4,none⟩ (.inl rfl) _;have k:∀j,j=g->NoT w j:=λj e=>by rw[e];exact h.ng
 refine⟨h.gb,h.rb,h.qr,h.rd.keep c (λe=>h.gq e.symm),⟨f,_,_,?_,o.kept c (λe=>h.gr e.symm),.inr ⟨a,b,rfl,rfl,m.keptN c k,u.keptN c k⟩⟩,h.dl,h.ll⟩;have i:(w.setCell ⟨g,3,none⟩ (.pointer (some ⟨a,0,none⟩))).heap[g]? =some (.cells #[.pointer (some ⟨q,0,none⟩),.slice (some ⟨r,0,none⟩) x.2.length f,.int .i64 ((L:Int) - ((x.2.length - D:Nat):Int)),.pointer (some ⟨a,0,none⟩),n] 179 (0,0)):=by
  rw[setCell_eq_setRow w g 3 _ _ _ _ d,setRow_heap w g _ _ _ _ d];rfl
 rw[setCell_eq_setRow _ g 4 _ _ _ _ i,setRow_heap _ g _ _ _ _ i];rfl
theorem Hc(h:In w B g q r s D L x):
 Calls prog 167 #[.pointer (some ⟨g,0,none⟩)] w (wL w B g q r s D L fx 288 (λ_=>5) 32 x):=by
 obtain⟨cp,v3,v4,c0,c1,c2,c3,c4,cf,hy,hm⟩:=h.cells;have d:Kept NoB w (w.alloc (.cells #[.pointer none,.pointer none] 177)):=(Kept.refl _ _).alloc _;have c:(w.alloc (.cells #[.pointer none,.pointer none] 177)).heap[w.heap.size]? =some (.cells #[.pointer none,.pointer none] 177 (0,0)):=heap_alloc_new _ _;have T:(w.alloc (.cells #[.pointer none,.pointer none] 177)).heap.size=w.heap.size+1:=(by simp);generalize ae:w.alloc (.cells #[.pointer none,.pointer none] 177)=w0 at d c T;generalize K:w.heap.size=b at c T;have ao:g<b:=(by have:=h.glt;omega);have au:q<b:=(by have:=h.rd.lt;omega);have aq:r<b:=(by have:=h.rlt;omega);have i0:=h.same d;have d3:=d.cell c3 (λe=>e);have d4:=d.cell c4 (λe=>e);obtain⟨n0,n1,n2,n3⟩:=an c;obtain⟨O,HK,P⟩:=qh3 c d i0;rcases hm with⟨rfl,rfl⟩|⟨m,n,rfl,rfl,t1,t2⟩
 · have a0:=qH (V.fixed_f w0)
   clear h hy cf c0 c1 c2 c3 c4 d c i0;unfold wL;go_enter func167,ntmps167;go_wp2_with (go_at_call 209;(with_reducible refine a0.o.mono ?_);rintro e k ⟨C,c1,G,c2,rfl,s1,s2,b1,u1,u2,rfl⟩;obtain⟨S1,S2,B1⟩:=qh3 s1 s2 b1;clear s1 s2 b1 u1 u2);have aj:=B1.o.size;have y:(k.alloc (.cells #[.slice C 288 c1,.slice G 30 30] 149)).heap[k.heap.size]? =some (.cells #[.slice C 288 c1,.slice G 30 30] 149 (0,0)):=heap_alloc_new _ _;have H:Kept NoB k (k.alloc (.cells #[.slice C 288 c1,.slice G 30 30] 149)):=(Kept.refl _ _).alloc _;generalize a3:k.alloc (.cells #[.slice C 288 c1,.slice G 30 30] 149)=I at y H ⊢;have m0:=(an y).1;have m1:=(an y).2.1;have u:=qH H;have X:∀o:Obj,(I.drew.alloc o).cell? ⟨k.heap.size,0,none⟩=some (.slice C 288 c1):=λo=>(World.cell?_of_block (a:=⟨k.heap.size,0,none⟩) (Below.heap_alloc I.drew _ _ (qB m0))).trans m0
   have a7:∀o:Obj,(I.drew.alloc o).cell? ⟨k.heap.size,1,none⟩=some (.slice G 30 30):=λo=>(World.cell?_of_block (a:=⟨k.heap.size,1,none⟩) (Below.heap_alloc I.drew _ _ (qB m1))).trans m1
   have a1:∀o:Obj,(I.alloc o).drew.cell? ⟨k.heap.size,0,none⟩=some (.slice C 288 c1):=X;have ag:∀o:Obj,(I.alloc o).drew.cell? ⟨k.heap.size,1,none⟩=some (.slice G 30 30):=a7;have a9:=qH (λ(W:World) (K:Below k.heap.size k W)=>(show av W .u8 C 288 (λi=>(fx i:Int)) from S1.o.below K));have S:=qH (λ(W:World) (K:Below k.heap.size k W) (A':Option Addr) (c':Nat) (h5:av W .u8 A' 32 (λ_=>((5:Nat):Int)))=>ej C A' 288 c1 32 c' fx (λ_=>5) W (λi=>by unfold fx;split<;>(try split)<;>(try split)<;>omega) (λ_=>by omega) (a9.o W K) h5 (by decide+kernel) (by decide+kernel));unfold zR at S;have a2:=qH (λ(W:World) (K:Kept NoB k W)=>(show Kept NoB w0 W from(Kept.of_below B1.o).trans K (λ_ e=>e.elim)));clear y H a3
   go_region_law (first
    |(refine qc rfl (.tmp 15) (.tmp 16) rfl G (by simp[Act.eval]) (S2.o.below (kb (by first|exact(u.o.drew).alloc _|exact(u.o.alloc _).drew))) I.heap.size 2 (by simp[Act.eval]) ⟨by simp,by simp⟩ ?_;intro A' ay w4 s4 Q;have K4:=qH (show Kept NoB k w4 from by first|exact((u.o.drew).alloc _).trans Q (λ_ e=>e.elim)|exact((u.o.alloc _).drew).trans Q (λ_ e=>e.elim));have af:w4.cell? ⟨k.heap.size,0,none⟩=some (.slice C 288 c1):=(by first|exact Q.cell (X _) (λe=>e)|exact Q.cell (a1 _) (λe=>e));have S4:=qH s4;clear s4 Q)
    |(rw[A7 (by rfl)];go_simp;(with_reducible refine(S.o _ (kb K4.o) _ _ S4.o).mono ?_);rintro e Z ⟨m,n,rfl,aw,al,b6,t6⟩;have M:=qH (a2.o _ (K4.o.trans (Kept.of_below b6) (λ_ e=>e.elim)));have J:=(M.o.block b (by omega) (λe=>e)).trans O.o;obtain⟨ah,am,ar,a6,a4,aa,ap,aB,E,_,_⟩:=(P.o.same M.o).cells;have ac:=E 3;have ab:=E 4;have ax:=(an J).1;have az:=(an J).2.1;have ad:=(an J).2.2.1;have ai:=(an J).2.2.2;obtain⟨N6,T6⟩:=qh2 J t6;have ak:=K4.o.size;clear b6 J t6 a6 a4 aa E))
   all_goals
    go_wp2_with fail;have A:r<w4.heap.size:=(by have:=P.o.rlt;omega);have i7:=(P.o.same M.o).setMade (T6.o r A).1 (T6.o r A).2;have U:∀j,j=g->NoT Z j:=λj e=>by rw[e];exact(P.o.same M.o).ng
    have R:Kept (λj=>j=g) Z ((Z.setCell ⟨g,3,none⟩ (.pointer (some ⟨m,0,none⟩))).setCell ⟨g,4,none⟩ (.pointer (some ⟨n,0,none⟩))):=((Kept.refl (λj=>j=g) Z).setCell ⟨g,3,none⟩ (.inl rfl) _).setCell ⟨g,4,none⟩ (.inl rfl) _;have t7:=(T6.o r A).1.keptN R U;have u7:=(T6.o r A).2.keptN R U;have Y:=(R.block b (qW.1 N6.o).1 (λe=>by omega)).trans N6.o;generalize aA:(Z.setCell ⟨g,3,none⟩ (.pointer (some ⟨m,0,none⟩))).setCell ⟨g,4,none⟩ (.pointer (some ⟨n,0,none⟩))=w7 at i7 R t7 u7 Y ⊢;refine bodyPost_ret (v:=.agg #[.pointer (some ⟨m,0,none⟩),.pointer (some ⟨n,0,none⟩)]) (results_cell_row rfl _ _ b _ _ _ _ rfl (fh Y _ _) underlying177 rfl eE) rfl ?_
    have k8:Kept (λj=>j=b) w7 ((w7.setCell ⟨b,0,none⟩ (.pointer (some ⟨m,0,none⟩))).setCell ⟨b,1,none⟩ (.pointer (some ⟨n,0,none⟩))):=((Kept.refl (λj=>j=b) w7).setCell ⟨b,0,none⟩ (.inl rfl) _).setCell ⟨b,1,none⟩ (.inl rfl) _;have k9:Kept (Ch g q r) w w7:=((HK.o.trans M.o (λ_ e=>e.elim)).none _).trans R (λj e=> .inl (.inl e));exact⟨m,n,r,rfl,k9.trans k8 (λj e=> .inr (by omega)),.inl rfl,i7.other k8 (by omega) (by omega) (by omega) ⟨_,(an Y).1,λz=>⟨λe=>(by cases e),λe=>(by cases e)⟩⟩,t7.two Y (λ_=>⟨λe=>(by cases e),λe=>(by cases e)⟩) _ _,u7.two Y (λ_=>⟨λe=>(by cases e),λe=>(by cases e)⟩) _ _⟩
 · have u1:=t1.kept h.byt d (λ_ e=>e.elim)
   have u2:=t2.kept h.byt d (λ_ e=>e.elim);obtain⟨a8,a5⟩:=qh2 u1 u2;clear h hy cf c0 c1 c2 c3 c4 t1 t2 u1 u2 d c i0;unfold wL;go_enter func167,ntmps167;go_wp2_with fail;refine bodyPost_ret (v:=.agg #[.pointer (some ⟨m,0,none⟩),.pointer (some ⟨n,0,none⟩)]) (results_cell_row rfl _ _ b _ _ _ _ rfl (fh O.o _ _) underlying177 rfl eE) rfl ?_
   have k7:Kept (λj=>j=b) w0 ((w0.setCell ⟨b,0,none⟩ (.pointer (some ⟨m,0,none⟩))).setCell ⟨b,1,none⟩ (.pointer (some ⟨n,0,none⟩))):=((Kept.refl (λj=>j=b) w0).setCell ⟨b,0,none⟩ (.inl rfl) _).setCell ⟨b,1,none⟩ (.inl rfl) _;exact⟨m,n,r,rfl,(HK.o.none _).trans k7 (λj e=> .inr (by omega)),.inl rfl,P.o.other k7 (by omega) (by omega) (by omega) ⟨_,(an O.o).1,λz=>⟨λe=>(by cases e),λe=>(by cases e)⟩⟩,a8.o.two O.o (λ_=>⟨λe=>(by cases e),λe=>(by cases e)⟩) _ _,a5.o.two O.o (λ_=>⟨λe=>(by cases e),λe=>(by cases e)⟩) _ _⟩
end
def KN(b:Unit ⊕ Unit)(e:Ending)(_:World):Prop:=e=.returned (.bool (match b with|.inl _=>false|.inr _=>true))
def GQ(b:Bool):Unit ⊕ Unit:=if b=true then Sum.inr () else Sum.inl ()
section
variable {w0 w:World} {B g q r D L:Nat} {s:ByteArray} {x:St}
theorem nG{b k i n m:Nat}{l d:Nat->Nat}(j:Kept (Ch g q r) w0 w)(h:b=r\/w0.heap.size<=b)(C:In w B g q b s D L x)(t:Tb w b k l n)(H:Tb w b i d m)(hs:s.size<=100000)(G:TB B w)(K:Nat)(E:8*s.size - x.1<K)(A:L<=800000000)(u:D<=100000000):
 Calls prog 170 #[.pointer (some ⟨g,0,none⟩),.agg #[.pointer (some ⟨k,0,none⟩),.pointer (some ⟨i,0,none⟩)]] w (Out w0 B g q r s D L (syms K l n d m s D L x) dm):=by
 refine(sK C hs G t H K E A u).mono λe w' a=> ?_
 cases o:syms K l n d m s D L x with
 |error c=>rw[o] at a;exact⟨a.1,Kept.ch_trans j a.2 h⟩
 |ok p=>rw[o] at a;exact⟨a.1,Res.trans (y:=x) j h a.2⟩
theorem Res.two{l d:Nat->Nat}{n m:Nat}{y:St}{e:Ending}{w':World}{c:Nat}(f:Kept (Ch g q r) w0 w)(a:c=r\/w0.heap.size<=c)(h:wL w B g q c s D L l n d m y e w'):wL w0 B g q r s D L l n d m y e w':=by
 obtain⟨t,o,u,A,j,b,k,i,C⟩:=h;have:=f.size;refine⟨t,o,u,A,Kept.ch_trans f j a,?_,k,i,C⟩;rcases b with e|e
 · rw[e];exact a
 · exact .inr (by omega)
theorem Ie(h:In w B g q r s D L x)(hs:s.size<=100000)(ht:TB B w)(K:Nat)(hK:8*s.size - x.1<K)(hL:L<=800000000)(hD:D<=100000000):
 Calls prog 122 #[.pointer (some ⟨g,0,none⟩)] w (Out w B g q r s D L (blk K () s D L x) KN):=by
 generalize j:blk K () s D L x=R;unfold blk at j;have a1:=qH (λ(W:World) (k:Kept (Ch g q r) w W)=>(show TB B W from ht.go (h.bl k)));have a7:=qH (λ(y:Nat) (hy:x.1<=y)=>(show 8*s.size - y<K from by omega));have H:=qH h.start;clear h ht;cases h1:bits 1 s D L x with
 |error c=>
  rw[ak h1] at j;subst j
  have E:=qH (λ(W:World) (o:Res w B g q r s D L x W)=>(show Calls prog 166 #[.pointer (some ⟨g,0,none⟩),.int .i64 1] W λe w'=>e=.panicked (flt c)/\Kept (Ch g q r) w w' from by
   have:=o.lift (λr i=>EU i hs);rw[h1] at this;exact this))
  clear h1;go_enter func122,ntmps122;go_wp2_with (go_at_call 166;(with_reducible refine(E.o _ H.o).mono ?_);rintro e w1 ⟨rfl,k1⟩;have K1:=qH k1;clear k1);exact⟨rfl,rfl,K1.o⟩
 |ok pp=>
  obtain⟨f,x1⟩:=pp;rw[a8 h1] at j;obtain⟨hf,aa⟩:=bu h1 2 (by decide);have ag:x.1<=x1.1:=by rw[aa];simp only;omega
  have E:=qH (λ(W:World) (o:Res w B g q r s D L x W)=>(show Calls prog 166 #[.pointer (some ⟨g,0,none⟩),.int .i64 1] W λe w'=>e=.returned (.int .i64 f)/\Res w B g q r s D L x1 w' from by
   have:=o.lift (λr i=>EU i hs);rw[h1] at this;exact this))
  clear h1 aa;obtain⟨bl,a2⟩:∃bl,decide (f=1)=bl:=⟨_,rfl⟩
  have ae:((f:Int)==1)=bl:=(by rw[<-a2,Bool.eq_iff_iff,AG,Dg];omega);have ai:(f==1)=bl:=(by rw[<-a2,Bool.eq_iff_iff,AG,Dg]);have a4:∀ (u:Unit) (s:ByteArray) (D L:Nat) (y:St),(pur (if f=1 then Sum.inr () else Sum.inl ()):Rm (Unit ⊕ Unit)) s D L y=.ok (GQ bl,y):=λu s D L y=>by
   subst a2;unfold GQ;by_cases q:f=1
   · rw[A7 q,A7 (q9T q)];rfl
   · rw[A0 q,A0 (by rw[qF q];decide)];rfl
  have a0:=qH a4;have HV:=qH (show ∀w',KN (GQ bl) (.returned (.bool bl)) w' from λw'=>by cases bl<;>rfl);clear a4 a2;cases h2:bits 2 s D L x1 with
  |error c=>
   rw[ak h2] at j;subst j
   have d:=qH (λ(W:World) (o:Res w B g q r s D L x1 W)=>(show Calls prog 166 #[.pointer (some ⟨g,0,none⟩),.int .i64 2] W λe w'=>e=.panicked (flt c)/\Kept (Ch g q r) w w' from by
    have:=o.lift (λr i=>ET i hs);rw[h2] at this;exact this))
   clear h2;go_enter func122,ntmps122
   go_wp2_with (first
    |(go_at_call 166;(with_reducible refine(E.o _ H.o).mono ?_);rintro e w1 ⟨rfl,m⟩;have O:=qH m;clear m)
    |(go_at_call 166;(with_reducible refine(d.o _ O.o).mono ?_);rintro e w2 ⟨rfl,k2⟩;have K2:=qH k2;clear k2))
   exact⟨rfl,rfl,K2.o⟩
  |ok pp=>
   obtain⟨k,G⟩:=pp;rw[a8 h2] at j;obtain⟨V,ac⟩:=bu h2 4 (by decide);have af:x1.1<=G.1:=(by rw[ac];simp only;omega);have a6:8*s.size - G.1<K:=a7.o _ (by omega)
   have M:=(λ(W:World) (o:Res w B g q r s D L x1 W)=>(show Calls prog 166 #[.pointer (some ⟨g,0,none⟩),.int .i64 2] W λe w'=>e=.returned (.int .i64 k)/\Res w B g q r s D L G w' from by
    have:=o.lift (λr i=>ET i hs);rw[h2] at this;exact this))
   clear h2 ac;have hc:k=0\/k=1\/k=2\/k=3:=(by omega);rcases hc with rfl|rfl|rfl|rfl
   · have d:=qH (λ(W:World) (o:Res w B g q r s D L x1 W)=>(show Calls prog 166 #[.pointer (some ⟨g,0,none⟩),.int .i64 2] W λe w'=>e=.returned (.int .i64 0)/\Res w B g q r s D L G w' from M W o))
     clear M;rw[show body K 0=stor from rfl] at j;cases I:stor s D L G with
     |error c=>
      rw[ak I] at j;subst j
      have HC:=qH (λ(W:World) (o:Res w B g q r s D L G W)=>(show Calls prog 168 #[.pointer (some ⟨g,0,none⟩)] W λe w'=>e=.panicked (flt c)/\Kept (Ch g q r) w w' from by
       have:=o.lift (λr i=>nL i hs hL hD);rw[I] at this;exact this))
      clear I;go_enter func122,ntmps122
      go_wp2_with (first
       |(go_at_call 166;(with_reducible refine(E.o _ H.o).mono ?_);rintro e w1 ⟨rfl,m⟩;have O:=qH m;clear m)
       |(go_at_call 166;(with_reducible refine(d.o _ O.o).mono ?_);rintro e w2 ⟨rfl,C⟩;have S:=qH C;clear C)
       |(go_at_call 168;(with_reducible refine(HC.o _ S.o).mono ?_);rintro e w3 ⟨rfl,J⟩;have U:=qH J;clear J))
      exact⟨rfl,rfl,U.o⟩
     |ok pp=>
      obtain⟨u,x3⟩:=pp;rw[a8 I,a0.o ()] at j;subst j
      have HC:=qH (λ(W:World) (o:Res w B g q r s D L G W)=>(show Calls prog 168 #[.pointer (some ⟨g,0,none⟩)] W λe w'=>e=.returned (.tuple #[])/\Res w B g q r s D L x3 w' from by
       have:=o.lift (λr i=>nL i hs hL hD);rw[I] at this;exact this))
      clear I;go_enter func122,ntmps122
      go_wp2_with (first
       |(go_at_call 166;(with_reducible refine(E.o _ H.o).mono ?_);rintro e w1 ⟨rfl,m⟩;have O:=qH m;clear m)
       |(go_at_call 166;(with_reducible refine(d.o _ O.o).mono ?_);rintro e w2 ⟨rfl,C⟩;have S:=qH C;clear C)
       |(go_at_call 168;(with_reducible refine(HC.o _ S.o).mono ?_);rintro e w3 ⟨rfl,o3⟩;have O3:=qH o3;clear o3))
      go_ret;exact⟨HV.o _,O3.o⟩
   · have d:=qH (λ(W:World) (o:Res w B g q r s D L x1 W)=>(show Calls prog 166 #[.pointer (some ⟨g,0,none⟩),.int .i64 2] W λe w'=>e=.returned (.int .i64 1)/\Res w B g q r s D L G w' from M W o))
     clear M;rw[show body K 1=syms K fx 288 (λ_=>5) 32 from rfl] at j
     have a5:=qH (λ(W:World) (o:Res w B g q r s D L G W)=>(show Calls prog 167 #[.pointer (some ⟨g,0,none⟩)] W (wL w B g q r s D L fx 288 (λ_=>5) 32 G) from by
      obtain⟨kk,A,n,i1⟩:=o;exact(Hc i1).mono λe w' o'=>Res.two kk n o'))
     unfold wL at a5;cases I:syms K fx 288 (λ_=>5) 32 s D L G with
     |error c=>
      rw[ak I] at j;subst j
      have HC:=qH (λ(W:World) (A P Q:Nat) (V:Kept (Ch g q r) w W) (n:A=r\/w.heap.size<=A) (i1:In W B g q A s D L G) (t1:Tb W A P fx 288) (t2:Tb W A Q (λ_=>5) 32)=>(show Calls prog 170 #[.pointer (some ⟨g,0,none⟩),.agg #[.pointer (some ⟨P,0,none⟩),.pointer (some ⟨Q,0,none⟩)]] W λe w'=>e=.panicked (flt c)/\Kept (Ch g q r) w w' from by
       have:=nG V n i1 t1 t2 hs (a1.o _ V) K a6 hL hD;rw[I] at this;exact this))
      clear I;go_enter func122,ntmps122
      go_wp2_with (first
       |(go_at_call 166;(with_reducible refine(E.o _ H.o).mono ?_);rintro e w1 ⟨rfl,m⟩;have O:=qH m;clear m)
       |(go_at_call 166;(with_reducible refine(d.o _ O.o).mono ?_);rintro e w2 ⟨rfl,C⟩;have S:=qH C;clear C)
       |(go_at_call 167;(with_reducible refine(a5.o _ S.o).mono ?_);rintro e w3 ⟨P,Q,r3,rfl,J,g3,X,t3,Y⟩;obtain⟨U,G3,I3,T3,U3⟩:=qh5 J g3 X t3 Y;clear J g3 X t3 Y)
       |(go_at_call 170;(with_reducible refine(HC.o _ _ _ _ U.o G3.o I3.o T3.o U3.o).mono ?_);rintro e w4 ⟨rfl,k4⟩;have K4:=qH k4;clear k4))
      exact⟨rfl,rfl,K4.o⟩
     |ok pp=>
      obtain⟨u,x3⟩:=pp;rw[a8 I,a0.o ()] at j;subst j
      have HC:=qH (λ(W:World) (A P Q:Nat) (V:Kept (Ch g q r) w W) (n:A=r\/w.heap.size<=A) (i1:In W B g q A s D L G) (t1:Tb W A P fx 288) (t2:Tb W A Q (λ_=>5) 32)=>(show Calls prog 170 #[.pointer (some ⟨g,0,none⟩),.agg #[.pointer (some ⟨P,0,none⟩),.pointer (some ⟨Q,0,none⟩)]] W λe w'=>e=.returned (.tuple #[])/\Res w B g q r s D L x3 w' from by
       have:=nG V n i1 t1 t2 hs (a1.o _ V) K a6 hL hD;rw[I] at this;exact this))
      clear I;go_enter func122,ntmps122
      go_wp2_with (first
       |(go_at_call 166;(with_reducible refine(E.o _ H.o).mono ?_);rintro e w1 ⟨rfl,m⟩;have O:=qH m;clear m)
       |(go_at_call 166;(with_reducible refine(d.o _ O.o).mono ?_);rintro e w2 ⟨rfl,C⟩;have S:=qH C;clear C)
       |(go_at_call 167;(with_reducible refine(a5.o _ S.o).mono ?_);rintro e w3 ⟨P,Q,r3,rfl,J,g3,X,t3,Y⟩;obtain⟨U,G3,I3,T3,U3⟩:=qh5 J g3 X t3 Y;clear J g3 X t3 Y)
       |(go_at_call 170;(with_reducible refine(HC.o _ _ _ _ U.o G3.o I3.o T3.o U3.o).mono ?_);rintro e w4 ⟨rfl,o4⟩;have O4:=qH o4;clear o4))
      go_ret;exact⟨HV.o _,O4.o⟩
   · have d:=qH (λ(W:World) (o:Res w B g q r s D L x1 W)=>(show Calls prog 166 #[.pointer (some ⟨g,0,none⟩),.int .i64 2] W λe w'=>e=.returned (.int .i64 2)/\Res w B g q r s D L G w' from M W o))
     clear M;rw[show body K 2=bnd (dyn K) λt=>syms K (lit t.1) t.2.1 (dis t.1 t.2.1) t.2.2 from rfl] at j
     have T:=(λ(W:World) (o:Res w B g q r s D L G W)=>(show Calls prog 169 #[.pointer (some ⟨g,0,none⟩)] W λe w'=>
      match dyn K s D L G with
      |.ok p=>wL w B g q r s D L (lit p.1.1) p.1.2.1 (dis p.1.1 p.1.2.1) p.1.2.2 p.2 e w'
      |.error c=>e=.panicked (flt c)/\Kept (Ch g q r) w w' from by
       have ad:=a1.o _ o.kept;obtain⟨kk,A,n,i1⟩:=o;refine(vk i1 hs ad K a6).mono λe w' o'=> ?_
       cases hd:dyn K s D L G with
       |error c=>rw[hd] at o';exact⟨o'.1,Kept.ch_trans kk o'.2 n⟩
       |ok p=>rw[hd] at o';exact Res.two kk n o'))
     cases h4:dyn K s D L G with
     |error c=>
      rw[ak (ak h4)] at j;subst j;simp only[h4] at T;have Z:=qH T;clear h4 T;go_enter func122,ntmps122
      go_wp2_with (first
       |(go_at_call 166;(with_reducible refine(E.o _ H.o).mono ?_);rintro e w1 ⟨rfl,m⟩;have O:=qH m;clear m)
       |(go_at_call 166;(with_reducible refine(d.o _ O.o).mono ?_);rintro e w2 ⟨rfl,C⟩;have S:=qH C;clear C)
       |(go_at_call 169;(with_reducible refine(Z.o _ S.o).mono ?_);rintro e w3 ⟨rfl,J⟩;have U:=qH J;clear J))
      exact⟨rfl,rfl,U.o⟩
     |ok pp=>
      obtain⟨⟨all,a,b⟩,x3⟩:=pp;have ah:=((a9.dyn K).mono h4).1;simp only[h4] at T;have Z:=qH T;unfold wL at Z;have ab:8*s.size - x3.1<K:=a7.o _ (by omega);have a3:bnd (dyn K) (λt=>syms K (lit t.1) t.2.1 (dis t.1 t.2.1) t.2.2) s D L G=syms K (lit all) a (dis all a) b s D L x3:=a8 h4;clear h4 T;cases I:syms K (lit all) a (dis all a) b s D L x3 with
      |error c=>
       rw[ak (a3.trans I)] at j;subst j
       have HC:=qH (λ(W:World) (A P Q:Nat) (V:Kept (Ch g q r) w W) (n:A=r\/w.heap.size<=A) (i1:In W B g q A s D L x3) (t1:Tb W A P (lit all) a) (t2:Tb W A Q (dis all a) b)=>(show Calls prog 170 #[.pointer (some ⟨g,0,none⟩),.agg #[.pointer (some ⟨P,0,none⟩),.pointer (some ⟨Q,0,none⟩)]] W λe w'=>e=.panicked (flt c)/\Kept (Ch g q r) w w' from by
        have:=nG V n i1 t1 t2 hs (a1.o _ V) K ab hL hD;rw[I] at this;exact this))
       clear I a3;go_enter func122,ntmps122
       go_wp2_with (first
        |(go_at_call 166;(with_reducible refine(E.o _ H.o).mono ?_);rintro e w1 ⟨rfl,m⟩;have O:=qH m;clear m)
        |(go_at_call 166;(with_reducible refine(d.o _ O.o).mono ?_);rintro e w2 ⟨rfl,C⟩;have S:=qH C;clear C)
        |(go_at_call 169;(with_reducible refine(Z.o _ S.o).mono ?_);rintro e w3 ⟨P,Q,r3,rfl,J,g3,X,t3,Y⟩;obtain⟨U,G3,I3,T3,U3⟩:=qh5 J g3 X t3 Y;clear J g3 X t3 Y)
        |(go_at_call 170;(with_reducible refine(HC.o _ _ _ _ U.o G3.o I3.o T3.o U3.o).mono ?_);rintro e w4 ⟨rfl,k4⟩;have K4:=qH k4;clear k4))
       exact⟨rfl,rfl,K4.o⟩
      |ok pp=>
       obtain⟨u,x4⟩:=pp;rw[a8 (a3.trans I),a0.o ()] at j;subst j
       have HC:=qH (λ(W:World) (A P Q:Nat) (V:Kept (Ch g q r) w W) (n:A=r\/w.heap.size<=A) (i1:In W B g q A s D L x3) (t1:Tb W A P (lit all) a) (t2:Tb W A Q (dis all a) b)=>(show Calls prog 170 #[.pointer (some ⟨g,0,none⟩),.agg #[.pointer (some ⟨P,0,none⟩),.pointer (some ⟨Q,0,none⟩)]] W λe w'=>e=.returned (.tuple #[])/\Res w B g q r s D L x4 w' from by
        have:=nG V n i1 t1 t2 hs (a1.o _ V) K ab hL hD;rw[I] at this;exact this))
       clear I a3;go_enter func122,ntmps122
       go_wp2_with (first
        |(go_at_call 166;(with_reducible refine(E.o _ H.o).mono ?_);rintro e w1 ⟨rfl,m⟩;have O:=qH m;clear m)
        |(go_at_call 166;(with_reducible refine(d.o _ O.o).mono ?_);rintro e w2 ⟨rfl,C⟩;have S:=qH C;clear C)
        |(go_at_call 169;(with_reducible refine(Z.o _ S.o).mono ?_);rintro e w3 ⟨P,Q,r3,rfl,J,g3,X,t3,Y⟩;obtain⟨U,G3,I3,T3,U3⟩:=qh5 J g3 X t3 Y;clear J g3 X t3 Y)
        |(go_at_call 170;(with_reducible refine(HC.o _ _ _ _ U.o G3.o I3.o T3.o U3.o).mono ?_);rintro e w4 ⟨rfl,o4⟩;have O4:=qH o4;clear o4))
       go_ret;exact⟨HV.o _,O4.o⟩
   · have d:=qH (λ(W:World) (o:Res w B g q r s D L x1 W)=>(show Calls prog 166 #[.pointer (some ⟨g,0,none⟩),.int .i64 2] W λe w'=>e=.returned (.int .i64 3)/\Res w B g q r s D L G w' from M W o))
     clear M;rw[ak (e:=160) (show body K 3 s D L G=.error 160 from rfl)] at j;subst j;go_enter func122,ntmps122
     go_wp2_with (first
      |(go_at_call 166;(with_reducible refine(E.o _ H.o).mono ?_);rintro e w1 ⟨rfl,m⟩;have O:=qH m;clear m)
      |(go_at_call 166;(with_reducible refine(d.o _ O.o).mono ?_);rintro e w2 ⟨rfl,C⟩;have S:=qH C;clear C)
      |(go_at_call 171;(with_reducible refine(z9 _).mono ?_);rintro e w3 ⟨rfl,J⟩;have U:=qH J;clear J))
     exact⟨rfl,rfl,S.o.end_ U.o⟩
end
theorem vh(c:Nat)(w:World):(binOp .eql 20 (.iface 171 (.agg #[.int .i64 c])) .nilIface).run prog w=.ok (.bool false) w:=by kernel_rfl
theorem yO(c:Nat)(w:World):(Instr.typeAssert (.iface 171 (.agg #[.int .i64 c])) 20 171 true).run prog w=.ok (.tuple #[.agg #[.int .i64 c],.bool true]) w:=by kernel_rfl
theorem catch_idle(E:Nat)(w:World):
 CallsD prog 120 #[.pointer (some ⟨E,0,none⟩)] .returning w λe c w'=>e=.returned (.tuple #[])/\c=.returning/\w'=w:=by
 refine callsD_of_wpS func120 rfl λa cs b=> ?_
 apply wpS_seq
 apply wpS_region
 simp[wpOpsS,go_sem,recoverD,b,ntmps120,Exit.thenS];refine wpS_of_wp ?_
 go_wp2;cases a;simp_all [bodyPostS,results,results120]
theorem catch_panic(c E:Nat)(y:Value)(a:List PanicEntry)(w:World)(i:w.cell? ⟨E,0,none⟩=some y)(m:w.frozen? ⟨E,0,none⟩=false):
 CallsD prog 120 #[.pointer (some ⟨E,0,none⟩)] (.panicking ({v:=.iface 171 (.agg #[.int .i64 c]),recovered:=false}::a)) w λe o w'=>
  e=.returned (.tuple #[])/\o=.panicking ({v:=.iface 171 (.agg #[.int .i64 c]),recovered:=true}::a)/\w'=(w.alloc (.cells #[.int .i64 c] 171)).setCell ⟨E,0,none⟩ (.int .i64 c):=by
 have b:=qB i;have d:Below w.heap.size w (w.alloc (.cells #[.int .i64 c] 171)):=qL;have j:=heap_alloc_new w (.cells #[.int .i64 c] 171);generalize u:w.alloc (.cells #[.int .i64 c] 171)=h at d j;have H:h.cell? ⟨E,0,none⟩=some y:=(d.cell (p:=⟨E,0,none⟩) b).trans i;have A:h.frozen? ⟨E,0,none⟩=false:=(d.frozen (p:=⟨E,0,none⟩) b).trans m;have C:h.cell? ⟨w.heap.size,0,none⟩=some (.int .i64 c):=(by simp[World.cell?,j]);refine callsD_of_wpS func120 rfl λk cs n=> ?_
 apply wpS_seq
 apply wpS_region
 simp[wpOpsS,go_sem,recoverD,n,ntmps120,Exit.thenS];refine wpS_of_wp ?_
 rw[show(#[Value.pointer (some {block:=E,off:=0})]++(Array.replicate 11 undef).setIfInBounds 3 (Value.iface 171 (Value.agg #[Value.int .i64 c])):Array Value)= #[Value.pointer (some {block:=E,off:=0}),undef,undef,undef,.iface 171 (.agg #[.int .i64 c]),undef,undef,undef,undef,undef,undef,undef] from rfl];have I:=vh c;have G:=yO c;go_wp2_with fail;simp[bodyPostS,results,results120]
section
variable {s:ByteArray} {D L K:Nat} {x y:St} {b:Unit ⊕ Unit}
theorem zA(h:blk K () s D L x=.ok (b,y))(d:x.1<=8*s.size):x.1<y.1/\y.1<=8*s.size:=by
 have a:=(a9.blk K ()).inn h d;unfold blk at h;obtain⟨f,A,i,m⟩:=ay h;obtain⟨k,E,j,o⟩:=ay m;obtain⟨u,G,t,n⟩:=ay o;have e:=(bu i 2 (by decide)).2;have c:=((a9.bits 2).mono j).1;have C:=((a9.body K k).mono t).1;cases n;rw[e] at c;simp only at c;exact⟨by omega,a⟩
end
def Kl(r:Except Nat (Unit×St))(D:Nat):Ending:=.returned (.tuple #[.string ⟨(ans r D).1.toArray⟩,.int .i64 (ans r D).2.1,.int .i64 (ans r D).2.2])
def stp(v:Value):Nat:=match v with
 |.bool false=>1
 |_=>0
def Nrm(Q:Exit->Act->World->Prop):Exit->Act->World->Prop
 |.normal,a,w=>Q .normal a w
 |_,_,_=>False
theorem Nrm.to{Q:Exit->Act->World->Prop}:∀e a w,Nrm Q e a w->Q e a w:=λe a w h=>by
 cases e<;>first|exact h|exact h.elim
theorem Nrm.back{Q:Exit->Act->World->Prop}{a:Act}{w:World}(h:Q .normal a w):Nrm Q .normal a w:=h
theorem zU{P:Program}{c:Code}{Q:Exit->Act->World->Prop}{a:Act}{w:World}(h:c.wp P (Nrm Q) a w):c.wp P Q a w:=Code.wp_mono Nrm.to h
theorem read_any(d s:ByteArray)(L K:Nat)(w:World)(hT:V.Tabs w)(hd:d.size<=100000)(hs:s.size<=100000)(hL:L<=800000000)(hK:8*s.size<K):
 Calls prog 84 #[.string d,.string s,.int .i64 L] w λe w'=>e=Kl (inf K s d.size L (0,d.data.toList)) d.size/\Below w.heap.size w w':=by
 have ar:d.data.toList.length=d.size:=As;generalize hF:inf K s d.size L (0,d.data.toList)=F;unfold inf at hF;have T:Below w.heap.size w (w.alloc (.cells #[.int .i64 0] 27)):=(Below.refl _ w).alloc qR _;have S:(w.alloc (.cells #[.int .i64 0] 27)).heap[w.heap.size]? =some (.cells #[.int .i64 0] 27 (0,0)):=heap_alloc_new _ _;have a3:(w.alloc (.cells #[.int .i64 0] 27)).heap.size=w.heap.size+1:=(by simp);generalize ay:w.alloc (.cells #[.int .i64 0] 27)=w1 at T S a3;obtain⟨E,J⟩:∃E,w.heap.size=E:=⟨_,rfl⟩
 rw[J] at T S a3;have G:=xA (B:=E) s w1 (by omega);rw[a3] at G;have a0:=qH G;have HT:=qH (λ(W:World) (A:Below E w W)=>(show V.Tabs W from hT.keep (by rw[J];exact A)));obtain⟨ag,ab,HF⟩:=qh3 T S hF;have a5:=qH (λ(W:World)=>run_by W d (by omega));clear T S hF G hT
 go_enter_defers func84,ntmps84
 go_wp2_with (go_at_call 121;(with_reducible refine a0.o.mono ?_);rintro e w2 ⟨rfl,k2,r2,z2⟩;obtain⟨cp,w3,aj,y3,b3,s3⟩:=a5.o w2;obtain⟨K2,R2,Y3,B3⟩:=qh4 k2 r2 y3 b3;clear k2 r2 y3 b3);generalize hr:w2.heap.size=r at Y3 s3 B3 ⊢;have P:(w3.alloc (.cells #[.pointer (some ⟨E+1,0,none⟩),.slice (some ⟨r,0,none⟩) d.size cp,.int .i64 (L:Int),.pointer none,.pointer none] 179)).heap[r+1]? =some (.cells #[.pointer (some ⟨E+1,0,none⟩),.slice (some ⟨r,0,none⟩) d.size cp,.int .i64 (L:Int),.pointer none,.pointer none] 179 (0,0)):=(by rw[<-s3];exact heap_alloc_new _ _);have H:Kept NoB w3 (w3.alloc (.cells #[.pointer (some ⟨E+1,0,none⟩),.slice (some ⟨r,0,none⟩) d.size cp,.int .i64 (L:Int),.pointer none,.pointer none] 179)):=(Kept.refl _ _).alloc _;generalize al:w3.alloc (.cells #[.pointer (some ⟨E+1,0,none⟩),.slice (some ⟨r,0,none⟩) d.size cp,.int .i64 (L:Int),.pointer none,.pointer none] 179)=w4 at P H ⊢;have M:Kept NoB w2 w3:=Kept.of_below (by rw[hr];exact B3.o);have I:Kept NoB w1 w4:=(K2.o.trans M (λ_ e=>e.elim)).trans H (λ_ e=>e.elim);have af:w4.heap[E]? =some (.cells #[.int .i64 0] 27 (0,0)):=(I.block E (by omega) (λe=>e)).trans ab.o;have a1:Below E w w4:=ag.o.trans ((kb I).mono (by omega));have O:In w4 E (r+1) (E+1) r s d.size L (0,d.data.toList):=by
  refine⟨by omega,by omega,by omega,(R2.o.keep M (λe=>e)).keep H (λe=>e),⟨cp,.pointer none,.pointer none,?_,Y3.o.kept H (λe=>e),.inl ⟨rfl,rfl⟩⟩,by simp only;omega,by simp only;omega⟩;simp only[ar,Dj];rw[show((L:Int) - ((0:Nat):Int))=(L:Int) by omega];exact P
 have aa:TB E w4:=λW A=>HT.o W (a1.trans A)
 have ae:=qH O;have av:=qH (λ(W:World) (hk:Kept (Ch (r+1) (E+1) r) w4 W)=>(show TB E W from aa.go (O.bl hk)))
 have Y:=qH (λ(W:World) (hk:Kept (Ch (r+1) (E+1) r) w4 W)=>(show Below E w W/\W.heap[E]? =some (.cells #[.int .i64 0] 27 (0,0)) from
  ⟨a1.trans (O.bl hk),(hk.block E (by have:=O.glt;omega) (λe=>by rcases e with e|e|e<;>omega)).trans af⟩))
 clear P H al M I af a1 O aa K2 R2 Y3 B3 ab ag a0 aj a5 HT
 go_loopw [10] (λv wr=>(v=.bool false/\∃k h,Res w4 E (r+1) (E+1) r s d.size L h wr/\8*s.size - h.1<k/\loopR (blk K) k () s d.size L h=F)\/(v=.bool true/\∃h,Res w4 E (r+1) (E+1) r s d.size L h wr/\F=.ok ((),h))) (λv wr=>(8*s.size - plc (E+1) wr)+stp v)
 case atStart=>exact .inl ⟨rfl,K,_,ae.o.start,by simp only;omega,HF.o⟩
 case round=>
  clear HF ae;rcases hrel with⟨rfl,k,h,hS,hk,n⟩|⟨rfl,h,hS,rfl⟩
  · obtain⟨k,rfl⟩:∃j,k=j+1:=⟨k - 1,by omega⟩
    obtain⟨am,ah⟩:h.1<=8*s.size/\plc (E+1) wr=h.1:=by obtain⟨_,r1,_,m⟩:=hS;exact⟨m.rd.le,m.plc⟩
    have a9:=av.o wr hS.kept;have C:=hS.lift (λr1 m=>Ie m hs a9 K (by omega) hL (by omega));clear hS a9;cases A:blk K () s d.size L h with
    |error c=>
     have aq:F=.error c:=(by rw[<-n];exact bI A);subst aq;rw[A] at C;have C:=qH (show Calls prog 122 #[.pointer (some ⟨r+1,0,none⟩)] wr λe w'=>e=.panicked (flt c)/\Kept (Ch (r+1) (E+1) r) w4 w' from C);clear A n hk;go_wp2_with (go_at_call 122;(with_reducible refine C.o.mono ?_);rintro e i ⟨rfl,k5⟩;have K5:=qH k5;clear k5);obtain⟨l1,Z⟩:=Y.o _ K5.o;have q1:i.cell? ⟨E,0,none⟩=some (.int .i64 0):=(by simp[World.cell?,Z]);have q2:i.frozen? ⟨E,0,none⟩=false:=(by simp[World.frozen?,Z]);refine leaves_cons (f:= 120) (args:= #[.pointer (some ⟨E,0,none⟩)]) (by simp) (by simp[go_sem]) ?_
     refine(catch_panic c E (.int .i64 0) [] i q1 q2).mono ?_
     rintro e u' ai ⟨rfl,rfl,rfl⟩;have ak:E<i.heap.size:=(qW.1 Z).1;have e5:(i.alloc (.cells #[.int .i64 c] 171)).heap[E]? =some (.cells #[.int .i64 0] 27 (0,0)):=(Below.heap_alloc _ _ _ ak).trans Z;have q3:((i.alloc (.cells #[.int .i64 c] 171)).setCell ⟨E,0,none⟩ (.int .i64 c)).cell? ⟨E,0,none⟩=some (.int .i64 c):=World.cell?_setCell_same' _ _ _ (by simp[World.cell?,e5]);have Q:Below w.heap.size w ((i.alloc (.cells #[.int .i64 c] 171)).setCell ⟨E,0,none⟩ (.int .i64 c)):=(by rw[J];exact(l1.alloc (by omega) _).setCell (p:=⟨E,0,none⟩) qR _);simp[Leaves,settle,results,results84,go_sem,q3];exact⟨rfl,Q⟩
    |ok p=>
     obtain⟨u,x2⟩:=p;rw[A] at C;obtain⟨m1,m2⟩:=zA A am;have C:=qH (show Calls prog 122 #[.pointer (some ⟨r+1,0,none⟩)] wr λe w'=>KN u e w'/\Res w4 E (r+1) (E+1) r s d.size L x2 w' from C);unfold KN at C;cases u with
     |inl u=>
      have HG:=qH ((cu (k:=k) A).symm.trans n);clear A n;have a2:=qH (show Calls prog 122 #[.pointer (some ⟨r+1,0,none⟩)] wr λe w'=>e=.returned (.bool false)/\Res w4 E (r+1) (E+1) r s d.size L x2 w' from C.o);clear C;go_wp2_with (go_at_call 122;(with_reducible refine a2.o.mono ?_);rintro e i ⟨rfl,X⟩;have O5:=qH X;clear X);go_roundw
      case rel=>exact .inl ⟨rfl,k,x2,O5.o,by omega,HG.o⟩
      case measure=>
       have hp:plc (E+1) i=x2.1:=(by obtain⟨_,r1,_,m⟩:=O5.o;exact m.plc);rw[hp,ah];simp only[stp];omega
     |inr u=>
      have HG:=qH ((aR (k:=k) A).symm.trans n);clear A n;have a2:=qH (show Calls prog 122 #[.pointer (some ⟨r+1,0,none⟩)] wr λe w'=>e=.returned (.bool true)/\Res w4 E (r+1) (E+1) r s d.size L x2 w' from C.o);clear C;go_wp2_with (go_at_call 122;(with_reducible refine a2.o.mono ?_);rintro e i ⟨rfl,X⟩;have O5:=qH X;clear X);go_roundw
      case rel=>exact .inr ⟨rfl,x2,O5.o,HG.o.symm⟩
      case measure=>
       have hp:plc (E+1) i=x2.1:=(by obtain⟨_,r1,_,m⟩:=O5.o;exact m.plc);rw[hp,ah];simp only[stp];omega
  · have HA:=qH (show Calls prog 123 #[.pointer (some ⟨E+1,0,none⟩)] wr λe w'=>e=.returned (.tuple #[])/\Res w4 E (r+1) (E+1) r s d.size L (8*((h.1+7) /8),h.2) w' from by
     refine(hS.lift (α:=Unit) (res:=.ok ((),(8*((h.1+7) /8),h.2))) (V:=dm) (λr1 m=>(fo m.rd (by have:=m.rd.le;omega)).mono λe w' (o:Got wr E (E+1) s (.tuple #[]) (kL h.1) e w')=>⟨o.1,kq o.2.2,r1,.inl rfl,m.read o.2.2 o.2.1⟩)).mono λe w' o=>⟨o.1,o.2⟩)
    obtain⟨q0,an⟩:∃q0,wr.cell? ⟨r+1,0,none⟩=some (.pointer (some ⟨q0,0,none⟩))/\q0=E+1:=by
     obtain⟨_,_,_,m⟩:=hS;obtain⟨_,_,_,c0,_⟩:=m.cells;exact⟨_,c0,rfl⟩
    obtain⟨q1,rfl⟩:=an;clear hS;go_wp2_with (go_at_call 123;(with_reducible refine HA.o.mono ?_);rintro e i ⟨rfl,X⟩;have O5:=qH X;clear X);obtain⟨k5,r5,au,i5⟩:=O5.o;obtain⟨cp5,v3,v4,c0,c1,c2,c3,c4,cf,hy,hm⟩:=i5.cells;have a8:=i5.same ((Kept.refl NoB i).drew);have a4:=qH (Ki a8.rd);obtain⟨l1,Z⟩:=Y.o _ k5;have q1:i.cell? ⟨E,0,none⟩=some (.int .i64 0):=(by simp[World.cell?,Z]);have q2:i.frozen? ⟨E,0,none⟩=false:=(by simp[World.frozen?,Z]);have aw:=i5.dl;have ao:h.2.length<=cp5:=hy.rb.nc;have az:=i5.rd.le;have R:Ry i.drew r5 cp5 h.2:=hy.of_block rfl;have HR:Kl (.ok ((),h)) d.size=.returned (.tuple #[.string ⟨(h.2.drop d.size).toArray⟩,.int .i64 (((h.1+7) /8:Nat):Int),.int .i64 0]):=rfl;obtain⟨a,ha⟩:∃a,8*((h.1+7) /8)=a:=⟨_,rfl⟩
    obtain⟨U,hU⟩:∃U,(h.1+7) /8=U:=⟨_,rfl⟩
    simp only[ha] at a4;rw[hU] at HR;have ax:Int.tdiv (a:Int) 8=(U:Int):=(by rw[show(a:Int)=8*(U:Int) by omega];exact Int.mul_tdiv_cancel_left _ (by decide));have ad:=qH HR;obtain⟨N,hN⟩:∃N,h.2.length=N:=⟨_,rfl⟩
    simp only[hN] at c1 aw ao;have a6:=qH (And.intro l1 Z);clear hy k5 i5 a8 au HA HR c2 c3 c4;by_cases ac:cp5=d.size
    · have a7:N=d.size:=by omega
      have hc:=V.Tx.conv_rb R.rb d.size d.size (hN.trans a7) qR ⟨r5,0,none⟩ (c:=0) (λe=>absurd e (by omega));rw[Dj] at hc;have ap:IntKind.i64.wrap (U:Int)=(U:Int):=IntWalk.i64_in _ ⟨by omega,by omega⟩;rw[a7,ac] at c1;clear R ac;refine zU ?_
      go_region_with (go_at_call 124;(with_reducible refine a4.o.mono ?_);rintro e w6 ⟨rfl,rfl⟩)
      all_goals refine Nrm.back ?_
      all_goals go_wp2_with fail
      all_goals
       refine leaves_cons (f:= 120) (args:= #[.pointer (some ⟨E,0,none⟩)]) (by simp) (by simp[go_sem]) ?_
       refine(catch_idle E _).mono ?_
       rintro e u' ai ⟨rfl,rfl,rfl⟩;have q3:((i.setCell ⟨E,0,none⟩ (.int .i64 0)).drew).cell? ⟨E,0,none⟩=some (.int .i64 0):=World.cell?_setCell_same' _ _ _ (by simp[q1]);have Q:Below w.heap.size w ((i.setCell ⟨E,0,none⟩ (.int .i64 0)).drew):=(by rw[J];exact(a6.o.1.setCell (p:=⟨E,0,none⟩) qR _).drew);rw[ad.o];simp[Leaves,settle,results,results84,go_sem,q3];exact Q
    · have hc:=V.Tx.conv_rb R.rb d.size N hN (by omega) ⟨r5,d.size,none⟩ (c:=cp5 - d.size) (λe=>rfl)
      have ap:IntKind.i64.wrap (U:Int)=(U:Int):=IntWalk.i64_in _ ⟨by omega,by omega⟩;clear R;refine zU ?_
      go_region_with (go_at_call 124;(with_reducible refine a4.o.mono ?_);rintro e w6 ⟨rfl,rfl⟩)
      all_goals refine Nrm.back ?_
      all_goals go_wp2_with fail
      all_goals
       refine leaves_cons (f:= 120) (args:= #[.pointer (some ⟨E,0,none⟩)]) (by simp) (by simp[go_sem]) ?_
       refine(catch_idle E _).mono ?_
       rintro e u' ai ⟨rfl,rfl,rfl⟩;have q3:((i.setCell ⟨E,0,none⟩ (.int .i64 0)).drew).cell? ⟨E,0,none⟩=some (.int .i64 0):=World.cell?_setCell_same' _ _ _ (by simp[q1]);have Q:Below w.heap.size w ((i.setCell ⟨E,0,none⟩ (.int .i64 0)).drew):=(by rw[J];exact(a6.o.1.setCell (p:=⟨E,0,none⟩) qR _).drew);rw[ad.o];simp[Leaves,settle,results,results84,go_sem,q3];exact Q
theorem mA(d s:ByteArray)(l:Int)(w:World)(a:l<0):Calls prog 41 #[.string d,.string s,.int .i64 l] w λe w'=>e=.returned (.tuple #[.string ⟨#[]⟩,.int .i64 0,.int .i64 2])/\w=w':=by
 go_enter func41,ntmps41;go_wp2;go_ret3;exact⟨rfl,rfl⟩
theorem mB(d s:ByteArray)(L K:Nat)(w:World)(i:V.Tabs w)(H:d.size<=32768)(hs:s.size<=100000)(u:L<=800000000)(k:8*s.size<K):
 Calls prog 41 #[.string d,.string s,.int .i64 L] w λe w'=>e=Kl (inf K s d.size L (0,d.data.toList)) d.size/\Below w.heap.size w w':=by
 have m:=qH (read_any d s L K w i (by omega) hs u k);obtain⟨R,a⟩:∃R,Kl (inf K s d.size L (0,d.data.toList)) d.size=R:=⟨_,rfl⟩
 obtain⟨t,n,c,h⟩:∃t n c,R=.returned (.tuple #[.string t,.int .i64 n,.int .i64 c]):=⟨_,_,_,a.symm⟩
 rw[a] at m ⊢;subst h;have C:decide ((L:Int)<0)=false:=qF (by omega);have G:IntKind.i64.wrap ((d.size:Int) - 32768)=(d.size:Int) - 32768:=IntWalk.i64_in _ ⟨by omega,by omega⟩;have E:max (0:Int) ((d.size:Int) - 32768)=0:=(by omega);have I:d.extract 0 d.size=d:=Dm;clear i a k;go_enter func41,ntmps41;go_wp2_with (go_at_call 84;(with_reducible refine m.o.mono ?_);rintro e J ⟨rfl,j⟩;have A:=qH j;clear j);go_ret3;exact⟨rfl,A.o⟩
theorem inf_nought(k:Nat):inf (k+1) ⟨#[3,0,120]⟩ 0 9 (0,[])=.ok ((),(10,[])):=by
 have f:lok fx 288 ⟨#[3,0,120]⟩ 3=(256,7,0):=En (Tbl.fit (by decide+kernel)) (by decide) (by decide) (by decide) (by decide+kernel);have e:Tbl fx 288:=(by decide+kernel);have h:bits 1 ⟨#[3,0,120]⟩ 0 9 (0,[])=.ok (1,(1,[])):=(by unfold bits;rw[A7 (by decide)];rfl);have a:bits 2 ⟨#[3,0,120]⟩ 0 9 (1,[])=.ok (1,(3,[])):=(by unfold bits;rw[A7 (by decide)];rfl);have b3:nxt fx 288 ⟨#[3,0,120]⟩ 0 9 (3,[])=.ok (256,(10,[])):=(by unfold nxt;rw[A7 e];simp only[f];rfl);have c:sym1 fx 288 (λ_=>5) 32 () ⟨#[3,0,120]⟩ 0 9 (3,[])=.ok (.inr (),(10,[])):=(by unfold sym1;rw[a8 b3,A0 (by decide),A7 rfl];rfl);have i:body (k+1) 1 ⟨#[3,0,120]⟩ 0 9 (3,[])=.ok ((),(10,[])):=(by unfold body syms;rw[A0 (by decide),A7 rfl];exact aR c);have d:blk (k+1) () ⟨#[3,0,120]⟩ 0 9 (0,[])=.ok (.inr (),(10,[])):=(by unfold blk;rw[a8 h,a8 a,a8 i];rfl);exact aR d
structure Ifs(T:World->Prop):Prop where
 keep:∀ {w w':World},T w->Below w.heap.size w w'->T w'
 yes:∀ (d s:ByteArray) (L:Nat) (w:World),T w->d.size<=32768->s.size<=100000->L<=800000000->
  Calls prog 41 #[.string d,.string s,.int .i64 L] w λe w'=>e=Kl (inf 1000000 s d.size L (0,d.data.toList)) d.size/\Below w.heap.size w w'
 neg:∀ (d s:ByteArray) (l:Int) (w:World),T w->l<0->
  Calls prog 41 #[.string d,.string s,.int .i64 l] w λe w'=>e=.returned (.tuple #[.string ⟨#[]⟩,.int .i64 0,.int .i64 2])/\Below w.heap.size w w'
theorem ifs:Ifs V.Tabs where
 keep h b:=h.keep b
 yes d s L w hT hd hs hL:=mB d s L 1000000 w hT hd hs hL (by omega)
 neg d s l w hT hl:=(mA d s l w hl).mono λe w' ⟨a,c⟩=>⟨a,c▸Below.refl _ _⟩
end I
namespace Z
open Go Go.RowKit
noncomputable def rin(D t:ByteArray)(lim:Int):List UInt8×Nat×Nat:=if lim<0 then([],0,2) else I.ans (I.inf 1000000 t D.size lim.toNat (0,D.data.toList)) D.size
theorem J5{D t:ByteArray}{lim:Int}(hs:t.size<=100000)(h:(rin D t lim).2.2=0):(rin D t lim).2.1<=t.size:=by
 unfold rin at h ⊢;by_cases q:lim<0
 · rw[A7 q] at h;cases h
 · rw[A0 q] at h ⊢
   have c:=I.inf_nz (s:=t) (K:=1000000) (D:=D.size) (L:=lim.toNat) (x:=(0,D.data.toList)) (by omega) qZ;obtain⟨y,a⟩:=I.ans_ok h c;rw[a];exact(I.inf_bounds (As:D.data.toList.length=D.size) a).2.1
theorem IZ(s:ByteArray)(o:Nat)(h:o+4<=s.size):sa (s.extract o s.size) 0 4=sa s o 4:=by
 have e:∀i,i<4->at8 (s.extract o s.size) i=at8 s (o+i):=λi hi=>by
  unfold at8;have:(s.extract o s.size).data.toList=(s.data.toList.drop o).take (s.size - o):=(by simp[CN]);rw[this,List.getD,AD,A7 (by omega),Bm,List.getD]
 rw[bU,bU,e 0 (by decide),e 1 (by decide),e 2 (by decide),e 3 (by decide),AI]
section
variable {T:World->Prop}
theorem Ln(C:I.Ifs T)(D t:ByteArray)(lim:Int)(w:World)(H:T w)(c:D.size<=32768)(a:t.size<=100000)(d:lim<=800000000):Calls prog 41 #[.string D,.string t,.int .i64 lim] w λe w'=>e=.returned (.tuple #[.string ⟨(rin D t lim).1.toArray⟩,.int .i64 ((rin D t lim).2.1:Int),.int .i64 ((rin D t lim).2.2:Int)])/\Below w.heap.size w w':=by
 unfold rin;by_cases q:lim<0
 · rw[A7 q];exact C.neg D t lim w H q
 · rw[A0 q]
   have:=C.yes D t lim.toNat w H c a (by omega);rw[show((lim.toNat:Nat):Int)=lim by omega] at this;exact this
theorem tk(d s:ByteArray)(r:List UInt8×Nat×Nat):((dct s).2.2≠0/\rdz d s r=(⟨#[]⟩,0,(dct s).2.2))\/((dct s).2.2=0/\(dct s).2.1=true/\(dct s).1≠adl 1 d/\rdz d s r=(⟨#[]⟩,0,171))\/
 ((dct s).2.2=0/\((dct s).2.1=true->(dct s).1=adl 1 d)/\((r.2.2≠0/\rdz d s r=(⟨#[]⟩,0,r.2.2))\/(r.2.2=0/\s.size<ahd s+r.2.1+4/\rdz d s r=(⟨#[]⟩,0,6))\/(r.2.2=0/\ahd s+r.2.1+4<=s.size/\sa s (ahd s+r.2.1) 4≠adl 1 ⟨r.1.toArray⟩/\rdz d s r=(⟨#[]⟩,0,172))\/(r.2.2=0/\ahd s+r.2.1+4<=s.size/\sa s (ahd s+r.2.1) 4=adl 1 ⟨r.1.toArray⟩/\rdz d s r=(⟨r.1.toArray⟩,ahd s+r.2.1+4,0)))):=by
 unfold rdz;by_cases i:(dct s).2.2≠0
 · rw[A7 i];exact .inl ⟨i,rfl⟩
 · rw[A0 i]
   have c:(dct s).2.2=0:=(by omega);by_cases e:(dct s).2.1=true/\(dct s).1≠adl 1 d
   · rw[A7 e];exact .inr (.inl ⟨c,e.1,e.2,rfl⟩)
   · rw[A0 e]
     refine .inr (.inr ⟨c,λh=>Classical.byContradiction λg=>e ⟨h,g⟩,?_⟩);unfold rdt;by_cases j:r.2.2≠0
     · rw[A7 j];exact .inl ⟨j,rfl⟩
     · rw[A0 j]
       have a:r.2.2=0:=(by omega);by_cases k:s.size<ahd s+r.2.1+4
       · rw[A7 k];exact .inr (.inl ⟨a,k,rfl⟩)
       · rw[A0 k]
         by_cases f:sa s (ahd s+r.2.1) 4≠adl 1 ⟨r.1.toArray⟩
         · rw[A7 f];exact .inr (.inr (.inl ⟨a,by omega,f,rfl⟩))
         · rw[A0 f];exact .inr (.inr (.inr ⟨a,by omega,Classical.byContradiction f,rfl⟩))
end
noncomputable def rdv(d s:ByteArray)(lim:Int):ByteArray×Nat×Nat:=rdz d s (rin (dic d s) (s.extract (ahd s) s.size) lim)
theorem Ko(s:ByteArray)(h:(dct s).2.2=0):ahd s<=s.size/\2<=s.size:=by
 unfold ahd;unfold dct at h ⊢
 split at h
 · cases h
 · rename_i d
   split at h
   · cases h
   · split at h
     · rename_i c a
       rw[A0 d,A0 c,A7 a,A0 (by decide)];omega
     · split at h
       · cases h
       · rename_i c a e
         rw[A0 d,A0 c,A0 a,A0 e,A7 rfl];omega
theorem JY(s:ByteArray):(dct s).1<4294967296:=by
 unfold dct
 split
 · decide
 · split
   · decide
   · split
     · decide
     · split
       · decide
       · exact FR s 2 4
theorem xC{D t:ByteArray}{lim:Int}(hs:t.size<=100000)(f:D.size<=32768)(h:lim<=800000000):(⟨(rin D t lim).1.toArray⟩:ByteArray).size<=maxLen:=by
 have a:∀l:List UInt8,(⟨l.toArray⟩:ByteArray).size=l.length:=λl=>by show l.toArray.size=_;simp
 rw[a];unfold rin
 split
 · exact qZ
 · cases q:I.inf 1000000 t D.size lim.toNat (0,D.data.toList) with
   |error e=>exact qZ
   |ok p=>
    have c:(p.2.2.drop D.size).length<=lim.toNat:=(I.inf_bounds (y:=p.2) (As:D.data.toList.length=D.size) q).1;have d:lim.toNat<=800000000:=(by omega);exact qK c (qK d (by decide))
theorem read_any{T:World->Prop}(C:I.Ifs T)(d s:ByteArray)(lim:Int)(w:World)(H:T w)(hd:d.size<=32768)(hs:s.size<=100000)(hl:lim<=800000000):
 Calls prog 14 #[.string d,.string s,.int .i64 lim] w λe w'=>e=.returned (.tuple #[.string (rdv d s lim).1,.int .i64 ((rdv d s lim).2.1:Int),.int .i64 ((rdv d s lim).2.2:Int)])/\Below w.heap.size w w':=by
 have R:=qH (λw=>p9 s w (by unfold maxLen;omega));have J:=qH (λ(w':World) (b:Below w.heap.size w w')=>Ln C (dic d s) (s.extract (ahd s) s.size) lim w' (C.keep H b) (by unfold dic;split;exact hd;exact qZ) (by rw[Ae];omega) hl);have a0:=qH (λw=>gd d w (by unfold maxLen;omega));have U:=J5 (D:=dic d s) (t:=s.extract (ahd s) s.size) (lim:=lim) (by rw[Ae];omega);have Z:=xC (D:=dic d s) (t:=s.extract (ahd s) s.size) (lim:=lim) (by rw[Ae];omega) (by unfold dic;split;exact hd;exact qZ) hl;rw[Ae] at U;have G:=λo h=>IZ s o h
 have P:=tk d s (rin (dic d s) (s.extract (ahd s) s.size) lim);have a5:=Ko s;have a7:=JY s;have hA:adl 1 d<4294967296:=(by have:=pJ 1 d;unfold dH at this;exact this);unfold rdv;generalize hr:rin (dic d s) (s.extract (ahd s) s.size) lim=r at P U Z ⊢;simp only[hr] at J;clear hr;obtain⟨RL,S,RC⟩:=r;simp only at P U Z J;obtain⟨X,hX⟩:∃X:ByteArray,(⟨RL.toArray⟩:ByteArray)=X:=⟨_,rfl⟩
 rw[hX] at P J Z;have aa:adl 1 X<4294967296:=(by have:=pJ 1 X;unfold dH at this;exact this);generalize hV:rdz d s (RL,S,RC)=V at P ⊢;clear hV hX;have a3:=qH (λw=>gd X w Z);obtain⟨A,a9⟩:∃A,adl 1 d=A:=⟨_,rfl⟩
 obtain⟨AX,a6⟩:∃AX,adl 1 X=AX:=⟨_,rfl⟩
 simp only[a9] at a0 P hA;simp only[a6] at a3 P aa;clear a9 a6 hd Z;have k:ahd s=if(dct s).2.1=true then 6 else 2:=rfl;have u:dic d s=if(dct s).2.1=true then d else⟨#[]⟩:=rfl;obtain⟨q,hq⟩:∃q,dct s=q:=⟨_,rfl⟩
 obtain⟨id,is,ec⟩:=q;rw[hq] at P a5 a7 k u;simp only[hq] at R;simp only at P a5 a7 k u R;clear hq;rcases P with⟨h0,i⟩|⟨h0,h1,h2,i⟩|⟨h0,h1,P⟩
 · subst i
   have dn:((ec:Int) !=0)=true:=(by rw[AQ];omega);clear a5 k u;go_enter func14,ntmps14;go_wp2_with (go_at_call 30;(with_reducible refine(R.o _).mono ?_);rintro e w1 ⟨rfl,O⟩;have Q:=qH O;clear O);go_ret3;exact⟨rfl,Q.o⟩
 · subst i
   subst h0;subst h1;have dn:((id:Int) !=(A:Int))=true:=(by rw[AQ];omega);clear a5 k u h2;go_enter func14,ntmps14
   go_wp2_with (first
    |(go_at_call 30;(with_reducible refine(R.o _).mono ?_);rintro e w1 ⟨rfl,O⟩;have Q:=qH O;clear O)
    |(go_at_call 40;(with_reducible refine(a0.o _).mono ?_);rintro e w2 ⟨rfl,rfl⟩)
    )
   go_ret3;exact⟨rfl,Q.o⟩
 · subst h0
   obtain⟨a8,ab⟩:=a5 rfl;have j:(s.extract (ahd s) s.size).size=s.size - ahd s:=(by rw[Ae];omega);cases is with
   |true=>
    rw[A7 rfl] at k u;have h1:=h1 rfl;subst h1;rw[k] at P U a8 j;rw[k,u] at J;obtain⟨St,a4⟩:∃St,s.extract 6 s.size=St:=⟨_,rfl⟩
    simp only[a4] at J;rw[a4] at j;rcases P with⟨hc,i⟩|⟨hc,n,i⟩|⟨hc,n,a,i⟩|⟨hc,n,a,i⟩
    · subst i
      have dn:((RC:Int) !=0)=true:=(by rw[AQ];omega);clear k u j;go_enter func14,ntmps14;go_wp2_with (first
      |(go_at_call 30;(with_reducible refine(R.o _).mono ?_);rintro e w1 ⟨rfl,O⟩;have Q:=qH O;clear O)
      |(go_at_call 40;(with_reducible refine(a0.o _).mono ?_);rintro e w2 ⟨rfl,rfl⟩)
      |(go_at_call 41;(with_reducible refine qcb Q (J.o _ Q.o) ?_);intro w4 B4))
      go_ret3;exact⟨rfl,B4.o⟩
    · subst i
      subst hc;have hU:=U rfl;have a2:S<=100000:=(by omega);obtain⟨E,hE⟩:∃E,6+S=E:=⟨_,rfl⟩
      rw[hE] at n
      try rw[hE]
      have z1:IntKind.i64.wrap (6+(S:Int))=(E:Int):=(by rw[IntWalk.i64_in _ ⟨by omega,by omega⟩];omega);have z2:6+(S:Int)=(E:Int):=(by omega);have z3:IntKind.i64.wrap ((E:Int)+4)=(E:Int)+4:=IntWalk.i64_in _ ⟨by omega,by omega⟩;have a1:E<=s.size:=(by omega);obtain⟨Sx,M⟩:∃Sx,s.extract E s.size=Sx:=⟨_,rfl⟩
      have m:Sx.size=s.size - E:=(by rw[<-M,Ae];omega);have c:=qH (λw=>jv Sx w (by omega));clear k u j m G;go_enter func14,ntmps14;go_wp2_with (first
      |(go_at_call 30;(with_reducible refine(R.o _).mono ?_);rintro e w1 ⟨rfl,O⟩;have Q:=qH O;clear O)
      |(go_at_call 40;(with_reducible refine(a0.o _).mono ?_);rintro e w2 ⟨rfl,rfl⟩)
      |(go_at_call 41;(with_reducible refine qcb Q (J.o _ Q.o) ?_);intro w4 B4)
      |(go_at_call 42;(with_reducible refine(c.o _).mono ?_);rintro e w5 ⟨rfl,rfl⟩))
      go_ret3;exact⟨rfl,B4.o⟩
    · subst i
      subst hc;have a2:S<=100000:=(by omega);obtain⟨E,hE⟩:∃E,6+S=E:=⟨_,rfl⟩
      rw[hE] at n a
      try rw[hE]
      have z1:IntKind.i64.wrap (6+(S:Int))=(E:Int):=(by rw[IntWalk.i64_in _ ⟨by omega,by omega⟩];omega);have z2:6+(S:Int)=(E:Int):=(by omega);have z3:IntKind.i64.wrap ((E:Int)+4)=(E:Int)+4:=IntWalk.i64_in _ ⟨by omega,by omega⟩;have a1:E<=s.size:=(by omega);obtain⟨Sx,M⟩:∃Sx,s.extract E s.size=Sx:=⟨_,rfl⟩
      have m:Sx.size=s.size - E:=(by rw[<-M,Ae];omega);have c:=qH (λw=>cz Sx w (by omega));have W:sa Sx 0 4=sa s E 4:=(by rw[<-M];exact G E (by omega));rw[W] at c;generalize hY:sa s E 4=Y at a;simp only[hY] at c;have dn:((Y:Int) !=(AX:Int))=true:=(by rw[AQ];omega);clear W hY;clear k u j m G a;go_enter func14,ntmps14;go_wp2_with (first
      |(go_at_call 30;(with_reducible refine(R.o _).mono ?_);rintro e w1 ⟨rfl,O⟩;have Q:=qH O;clear O)
      |(go_at_call 40;(with_reducible refine(a0.o _).mono ?_);rintro e w2 ⟨rfl,rfl⟩)
      |(go_at_call 41;(with_reducible refine qcb Q (J.o _ Q.o) ?_);intro w4 B4)
      |(go_at_call 42;(with_reducible refine(c.o _).mono ?_);rintro e w5 ⟨rfl,rfl⟩)
      |(go_at_call 40;(with_reducible refine(a3.o _).mono ?_);rintro e w6 ⟨rfl,rfl⟩))
      go_ret3;exact⟨rfl,B4.o⟩
    · subst i
      subst hc;have a2:S<=100000:=(by omega);obtain⟨E,hE⟩:∃E,6+S=E:=⟨_,rfl⟩
      rw[hE] at n a
      try rw[hE]
      have z1:IntKind.i64.wrap (6+(S:Int))=(E:Int):=(by rw[IntWalk.i64_in _ ⟨by omega,by omega⟩];omega);have z2:6+(S:Int)=(E:Int):=(by omega);have z3:IntKind.i64.wrap ((E:Int)+4)=(E:Int)+4:=IntWalk.i64_in _ ⟨by omega,by omega⟩;have a1:E<=s.size:=(by omega);obtain⟨Sx,M⟩:∃Sx,s.extract E s.size=Sx:=⟨_,rfl⟩
      have m:Sx.size=s.size - E:=(by rw[<-M,Ae];omega);have c:=qH (λw=>cz Sx w (by omega));have W:sa Sx 0 4=sa s E 4:=(by rw[<-M];exact G E (by omega));rw[W] at c;generalize hY:sa s E 4=Y at a;simp only[hY] at c;subst a;clear W hY;clear k u j m G;go_enter func14,ntmps14;go_wp2_with (first
      |(go_at_call 30;(with_reducible refine(R.o _).mono ?_);rintro e w1 ⟨rfl,O⟩;have Q:=qH O;clear O)
      |(go_at_call 40;(with_reducible refine(a0.o _).mono ?_);rintro e w2 ⟨rfl,rfl⟩)
      |(go_at_call 41;(with_reducible refine qcb Q (J.o _ Q.o) ?_);intro w4 B4)
      |(go_at_call 42;(with_reducible refine(c.o _).mono ?_);rintro e w5 ⟨rfl,rfl⟩)
      |(go_at_call 40;(with_reducible refine(a3.o _).mono ?_);rintro e w6 ⟨rfl,rfl⟩))
      go_ret3;exact⟨rfl,B4.o⟩
   |false=>
    rw[A0 (by decide)] at k u;rw[k] at P U a8 j;rw[k,u] at J;obtain⟨St,a4⟩:∃St,s.extract 2 s.size=St:=⟨_,rfl⟩
    simp only[a4] at J;rw[a4] at j;rcases P with⟨hc,i⟩|⟨hc,n,i⟩|⟨hc,n,a,i⟩|⟨hc,n,a,i⟩
    · subst i
      have dn:((RC:Int) !=0)=true:=(by rw[AQ];omega);clear k u j;go_enter func14,ntmps14;go_wp2_with (first
      |(go_at_call 30;(with_reducible refine(R.o _).mono ?_);rintro e w1 ⟨rfl,O⟩;have Q:=qH O;clear O)
      |(go_at_call 41;(with_reducible refine qcb Q (J.o _ Q.o) ?_);intro w4 B4))
      go_ret3;exact⟨rfl,B4.o⟩
    · subst i
      subst hc;have hU:=U rfl;have a2:S<=100000:=(by omega);obtain⟨E,hE⟩:∃E,2+S=E:=⟨_,rfl⟩
      rw[hE] at n
      try rw[hE]
      have z1:IntKind.i64.wrap (2+(S:Int))=(E:Int):=(by rw[IntWalk.i64_in _ ⟨by omega,by omega⟩];omega);have z2:2+(S:Int)=(E:Int):=(by omega);have z3:IntKind.i64.wrap ((E:Int)+4)=(E:Int)+4:=IntWalk.i64_in _ ⟨by omega,by omega⟩;have a1:E<=s.size:=(by omega);obtain⟨Sx,M⟩:∃Sx,s.extract E s.size=Sx:=⟨_,rfl⟩
      have m:Sx.size=s.size - E:=(by rw[<-M,Ae];omega);have c:=qH (λw=>jv Sx w (by omega));clear k u j m G;go_enter func14,ntmps14;go_wp2_with (first
      |(go_at_call 30;(with_reducible refine(R.o _).mono ?_);rintro e w1 ⟨rfl,O⟩;have Q:=qH O;clear O)
      |(go_at_call 41;(with_reducible refine qcb Q (J.o _ Q.o) ?_);intro w4 B4)
      |(go_at_call 42;(with_reducible refine(c.o _).mono ?_);rintro e w5 ⟨rfl,rfl⟩))
      go_ret3;exact⟨rfl,B4.o⟩
    · subst i
      subst hc;have a2:S<=100000:=(by omega);obtain⟨E,hE⟩:∃E,2+S=E:=⟨_,rfl⟩
      rw[hE] at n a
      try rw[hE]
      have z1:IntKind.i64.wrap (2+(S:Int))=(E:Int):=(by rw[IntWalk.i64_in _ ⟨by omega,by omega⟩];omega);have z2:2+(S:Int)=(E:Int):=(by omega);have z3:IntKind.i64.wrap ((E:Int)+4)=(E:Int)+4:=IntWalk.i64_in _ ⟨by omega,by omega⟩;have a1:E<=s.size:=(by omega);obtain⟨Sx,M⟩:∃Sx,s.extract E s.size=Sx:=⟨_,rfl⟩
      have m:Sx.size=s.size - E:=(by rw[<-M,Ae];omega);have c:=qH (λw=>cz Sx w (by omega));have W:sa Sx 0 4=sa s E 4:=(by rw[<-M];exact G E (by omega));rw[W] at c;generalize hY:sa s E 4=Y at a;simp only[hY] at c;have dn:((Y:Int) !=(AX:Int))=true:=(by rw[AQ];omega);clear W hY;clear k u j m G a;go_enter func14,ntmps14;go_wp2_with (first
      |(go_at_call 30;(with_reducible refine(R.o _).mono ?_);rintro e w1 ⟨rfl,O⟩;have Q:=qH O;clear O)
      |(go_at_call 41;(with_reducible refine qcb Q (J.o _ Q.o) ?_);intro w4 B4)
      |(go_at_call 42;(with_reducible refine(c.o _).mono ?_);rintro e w5 ⟨rfl,rfl⟩)
      |(go_at_call 40;(with_reducible refine(a3.o _).mono ?_);rintro e w6 ⟨rfl,rfl⟩))
      go_ret3;exact⟨rfl,B4.o⟩
    · subst i
      subst hc;have a2:S<=100000:=(by omega);obtain⟨E,hE⟩:∃E,2+S=E:=⟨_,rfl⟩
      rw[hE] at n a
      try rw[hE]
      have z1:IntKind.i64.wrap (2+(S:Int))=(E:Int):=(by rw[IntWalk.i64_in _ ⟨by omega,by omega⟩];omega);have z2:2+(S:Int)=(E:Int):=(by omega);have z3:IntKind.i64.wrap ((E:Int)+4)=(E:Int)+4:=IntWalk.i64_in _ ⟨by omega,by omega⟩;have a1:E<=s.size:=(by omega);obtain⟨Sx,M⟩:∃Sx,s.extract E s.size=Sx:=⟨_,rfl⟩
      have m:Sx.size=s.size - E:=(by rw[<-M,Ae];omega);have c:=qH (λw=>cz Sx w (by omega));have W:sa Sx 0 4=sa s E 4:=(by rw[<-M];exact G E (by omega));rw[W] at c;generalize hY:sa s E 4=Y at a;simp only[hY] at c;subst a;clear W hY;clear k u j m G;go_enter func14,ntmps14;go_wp2_with (first
      |(go_at_call 30;(with_reducible refine(R.o _).mono ?_);rintro e w1 ⟨rfl,O⟩;have Q:=qH O;clear O)
      |(go_at_call 41;(with_reducible refine qcb Q (J.o _ Q.o) ?_);intro w4 B4)
      |(go_at_call 42;(with_reducible refine(c.o _).mono ?_);rintro e w5 ⟨rfl,rfl⟩)
      |(go_at_call 40;(with_reducible refine(a3.o _).mono ?_);rintro e w6 ⟨rfl,rfl⟩))
      go_ret3;exact⟨rfl,B4.o⟩
