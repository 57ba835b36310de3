import Derived.Test.YthgilhebnlglkaaGreatDoorEMIfY
import Derived.Test.YthgilhebnlglkaaGreatDoorESaE
set_option linter.all false
set_option maxHeartbeats 8000000
set_option maxRecDepth 1000000
open Go.Proofs.Tryz
namespace Go.Proofs.YthgilhebnlglkaaGreatDoor.I
open Go Go.RowKit M
section
variable {s:ByteArray} {D L N:Nat} {x z:St} {l:Nat->Nat}
theorem zgx{y e:Nat}(h:z9r l s D L x=.ok ((y,e),z))(hx:x.1<=8*s.size):y<=18/\e<=127/\x.1<z.1/\z.1<=8*s.size/\tms ⟨y,e⟩≠0:=by
 unfold z9r at h;obtain⟨y',x1,h1,h2⟩:=z0a h;obtain⟨e',x2,h3,h4⟩:=z0a h2;have hin:=(z01.bits (rbm y')).inn h3 ((z01.nxt l 19).inn h1 hx);obtain⟨g1,g2,g3,g4,g5,rfl⟩:=z15 h1 hx;cases h4;obtain⟨k1,rfl⟩:=z0l h3 (2^rbm y) qR;have hm:∀y,y<19->(y<16->rbm y=0)/\(y=16->rbm y=2)/\(y=17->rbm y=3)/\(y=18->rbm y=7):=(by decide);obtain⟨m1,m2,m3,m4⟩:=hm y g2;have hc:y<16\/y=16\/y=17\/y=18:=(by omega);refine⟨by omega,?_,by simp only;omega,hin,?_⟩
 · rcases hc with q|q|q|q
   · rw[m1 q] at k1;omega
   · rw[m2 q] at k1;omega
   · rw[m3 q] at k1;omega
   · rw[m4 q] at k1;omega
 · rcases hc with q|q|q|q
   · rw[m1 q] at k1
     obtain rfl:e=0:=by omega
     rw[z67 q];decide
   · rw[m2 q] at k1;subst q;rw[z9P (by omega)];omega
   · rw[m3 q] at k1;subst q;rw[z9O (by omega)];omega
   · rw[m4 q] at k1;subst q;rw[z9N (by omega)];omega
theorem zhh{all:List Nat}{c:Nat}(hN:¬N<=all.length)(h:z9r l s D L x=.error c):len1 l N all s D L x=.error c:=by
 unfold len1;rw[if_neg hN];unfold z9r at h;cases h1:nxt l 19 s D L x with
 |error d=>rw[z03 h1] at h ⊢;cases h;rfl
 |ok p=>
  rw[z00 h1] at h ⊢;cases h2:bits (rbm p.1) s D L p.2 with
  |error d=>rw[z03 h2] at h ⊢;cases h;rfl
  |ok p2=>rw[z00 h2] at h;cases h
theorem zhg{all:List Nat}{y e:Nat}(hN:¬N<=all.length)(h:z9r l s D L x=.ok ((y,e),z)):len1 l N all s D L x=if(y=16/\all=[])\/N<all.length+tms ⟨y,e⟩ then .error 162 else .ok (.inl (all++List.replicate (tms ⟨y,e⟩) (vlr all ⟨y,e⟩)),z):=by
 unfold z9r at h;obtain⟨y',x1,h1,h2⟩:=z0a h;obtain⟨e',x2,h3,h4⟩:=z0a h2;cases h4;unfold len1;rw[if_neg hN,z00 h1,z00 h3]
 split<;>rfl
theorem zdX{all:List Nat}(hN:N<=all.length):len1 l N all s D L x=.ok (.inr all,x):=by
 unfold len1;rw[if_pos hN];rfl
end
structure LS(w:World)(r B g q:Nat)(s:ByteArray)(D L N p:Nat)(l:Nat->Nat)(F:Except Nat (List Nat×St))(all:List Nat)(v:Value)(x:St)(wr:World):Prop where
 ex:∃r1,(r1=r\/w.heap.size<=r1)/\In wr B g q r1 s D L x/\Tb wr r1 p l 19
 kp:Kept (Ch g q r) w wr
 tb:TB B wr
 rs:∃Rs,U.Owr w.heap.size wr v Rs/\(Rs=[]->v=.slice none 0 0)/\(∀rest,unp N [] (Rs++rest)=unp N all rest)/\Rs.length<=all.length/\∀t∈Rs,t.s<=18/\t.e<=127
 le:all.length<=N
 fu:∃k,8*s.size - x.1<k/\loopR (len1 l N) k all s D L x=F
def zeW(w:World)(N:Nat)(all:List Nat)(e:Ending)(w':World):Prop:=∃A c,e=.returned (.slice A N c)/\all.length=N/\U.IsBys w' A N all/\N<=c
section
variable {w wr:World} {r B g q D L N p:Nat} {s:ByteArray} {x:St} {l:Nat->Nat} {F:Except Nat (List Nat×St)} {all:List Nat} {v:Value}
theorem LS.apart(h:LS w r B g q s D L N p l F all v x wr)(hg:g<w.heap.size)(hq:q<w.heap.size){Rs:List Rn}(ho:U.Owr w.heap.size wr v Rs){r1:Nat}(hI:In wr B g q r1 s D L x):∀j,v.ownBlock=some j->j≠g/\j≠q/\j≠r1:=λj hj=>by
 obtain⟨h1,h2⟩:=ho.lt j hj;obtain⟨cs,h3⟩:=ho.ty j hj;obtain⟨c,fz,h4⟩:=hI.byt;exact⟨by omega,by omega,z72 h3 h4 (by decide)⟩
theorem LS.run(h:LS w r B g q s D L N p l F all v x wr)(hs:s.size<=100000)(hg:g<w.heap.size)(hq:q<w.heap.size):
 Calls prog 255 #[.pointer (some ⟨g,0,none⟩),.pointer (some ⟨p,0,none⟩)] wr λe w'=>
  match z9r l s D L x with
  |.ok pp=>zku pp.1 e w'/\(∃r1,(r1=r\/w.heap.size<=r1)/\In w' B g q r1 s D L pp.2/\Tb w' r1 p l 19)/\Kept (Ch g q r) w w'/\TB B w'/\∀Rs,U.Owr w.heap.size wr v Rs->U.Owr w.heap.size w' v Rs
  |.error c=>e=.panicked (flt c)/\Kept (Ch g q r) w w':=by
 obtain⟨r1,hr1,i1,t1⟩:=h.ex;have hk:=h.kp.size;refine(zjW i1 hs h.tb t1).mono λe w' o=> ?_
 cases hn:z9r l s D L x with
 |error c=>
  rw[hn] at o;exact⟨o.1,Kept.ch_trans h.kp o.2 hr1⟩
 |ok pp=>
  rw[hn] at o;obtain⟨o1,k2,r2,hr2,i2⟩:=o;refine⟨o1,⟨r2,?_,i2,Tb.go i1 t1 k2 hr2⟩,Kept.ch_trans h.kp k2 hr1,h.tb.go (i1.bl k2),λRs ho=>ho.at λj hj=> ?_⟩
  · rcases hr2 with e|e
    · rw[e];exact hr1
    · exact .inr (by omega)
  · obtain⟨a1,a2,a3⟩:=h.apart hg hq ho i1 j hj
    exact k2.block j (ho.lt j hj).2 (λe=>by rcases e with e|e|e;exact a1 e;exact a2 e;exact a3 e)
theorem In.runs(h:In wr B g q r s D L x){Rs:List Rn}{b0:Nat}(ho:U.Owr b0 wr v Rs)(h0:Rs=[]->v=.slice none 0 0)(hg:g<b0)(hq:q<b0){w':World}(hgr:wr.grownBy w' v.ownBlock):In w' B g q r s D L x/\(∀p' n' l',Tb wr r p' l' n'->Tb w' r p' l' n')/\Kept (λj=>v.ownBlock=some j) wr w':=by
 have hk:Kept (λj=>v.ownBlock=some j) wr w':=Kept.of_grown hgr;cases hv:v.ownBlock with
 |none=>
  have hk0:Kept NoB wr w':=hk.mono (λj e=>by rw[hv] at e;cases e);refine⟨h.same hk0,λp' n' l' t=>t.kept h.byt hk0 (λ_ e=>e.elim),by rw[<-hv];exact hk⟩
 |some b=>
  obtain⟨h1,h2⟩:=ho.lt b hv;obtain⟨cs,h3⟩:=ho.ty b hv;obtain⟨c,fz,h4⟩:=h.byt;have hk1:Kept (λj=>j=b) wr w':=hk.mono (λj e=>by rw[hv] at e;cases e;rfl);have hnt:NoT wr b:=by
   cases hR:Rs with
   |nil=>rw[h0 hR] at hv;simp[Value.ownBlock] at hv
   |cons t T=>
    subst hR;have hvs:∃n c,v=.slice (some ⟨b,0,none⟩) n c:=by
     rcases ho.2 with⟨rfl,_⟩|⟨g',cap,cur,rfl,_⟩
     · simp[Value.ownBlock] at hv
     · simp[Value.ownBlock] at hv;subst hv;exact⟨_,_,rfl⟩
    obtain⟨n',c',rfl⟩:=hvs;have k:=ho.cells (g:=b) rfl 0 (.int .u8 (t.s:Int)) (by simp[U.clr]);rw[U.nadd_at,Nat.zero_add] at k;exact⟨_,k,λz=>⟨λe=>(by cases e),λe=>(by cases e)⟩⟩
  refine⟨h.other hk1 (by omega) (by omega) (z72 h3 h4 (by decide)) hnt,λp' n' l' t=>t.keptN hk1 (λj e=>by rw[e];exact hnt),by rw[<-hv];exact hk⟩
end
section
variable {w:World} {B g q r D L p:Nat} {s:ByteArray} {x:St} {l:Nat->Nat}
theorem LS.grow{w w1 w3 w4:World}{r B g q D L N p:Nat}{s:ByteArray}{x1:St}{l:Nat->Nat}{F:Except Nat (List Nat×St)}{all2:List Nat}{v v':Value}{Rs:List Rn}{t:Rn}(hBg:B<=g)(hg:g<w.heap.size)(hq:q<w.heap.size)
 (Q1:∃r1,(r1=r\/w.heap.size<=r1)/\In w1 B g q r1 s D L x1/\Tb w1 r1 p l 19) (Q2:Kept (Ch g q r) w w1) (Q3:TB B w1) (hO:U.Owr w.heap.size w1 v Rs) (hO0:Rs=[]->v=.slice none 0 0) (hb:Below w1.heap.size w1 w3)
 (hO':U.Owr w.heap.size w4 v' (Rs++[t])) (hgr:w3.grownBy w4 v.ownBlock) (hu:∀rest,unp N [] ((Rs++[t])++rest)=unp N all2 rest) (hl:(Rs++[t]).length<=all2.length) (hok:∀t'∈Rs++[t],t'.s<=18/\t'.e<=127) (hle:all2.length<=N)
 (hfu:∃k,8*s.size - x1.1<k/\loopR (len1 l N) k all2 s D L x1=F):LS w r B g q s D L N p l F all2 v' x1 w4:=by
 obtain⟨r1,hr1,i1,t1⟩:=Q1;have hs:=Q2.size;obtain⟨i4,ht4,hk4⟩:=(i1.below hb).runs (hO.below hb) hO0 hg hq hgr;have hbB:Below B w1 w4:=(hb.mono (by omega)).trans (hk4.below (by have:=hb.size;omega) (λj e=>by have:=(hO.lt j e).1;omega));refine⟨⟨r1,hr1,i4,ht4 _ _ _ (t1.kept i1.byt (Kept.of_below hb) (λ_ e=>e.elim))⟩,(Q2.trans (Kept.of_below hb) (λ_ e=>e.elim)).trans hk4 (λj e=> .inr (hO.lt j e).1),Q3.go hbB,⟨Rs++[t],hO',λe=>absurd e (by simp),hu,hl,hok⟩,hle,hfu⟩
theorem z9l{W:World}(h:TB B W):U.Tab W:=h.here.1
theorem zj1(h:In w B g q r s D L x)(hs:s.size<=100000)(ht:TB B w)(tt:Tb w r p l 19)(N K:Nat)(hN:N<=400)(hK:8*s.size - x.1<K):
 Calls prog 213 #[.pointer (some ⟨g,0,none⟩),.pointer (some ⟨p,0,none⟩),.int .i64 N] w (Out w B g q r s D L (loopR (len1 l N) K [] s D L x) λall e w'=>zeW w N all e w'):=by
 generalize hF:loopR (len1 l N) K [] s D L x=F;have hL0:LS w r B g q s D L N p l F [] (.slice none 0 0) x w:=⟨⟨r,.inl rfl,h,tt⟩,Kept.refl _ _,ht,⟨[],U.Owr.nil _ _,λ_=>rfl,λ_=>rfl,qR,λ_ h=>absurd h (by simp)⟩,qZ,K,hK,hF⟩;have hg:=h.glt;have hq:=h.rd.lt;have HL0:=qH hL0;clear h ht tt hF hL0;go_enter func213,ntmps213;go_wp2_with fail
 go_loopw [7,8] (λv i wr=> ∃ (all:List Nat) (x':St),i=.int .i64 all.length/\LS w r B g q s D L N p l F all v x' wr) (λ_ i _=>N - (intOf i).toNat)
 case atStart=>exact⟨[],x,rfl,HL0.o⟩
 case round=>
  obtain⟨all,x',rfl,hS⟩:=hrel;clear HL0;have hBg:B<=g:=(by obtain⟨r1,_,i1,_⟩:=hS.ex;exact i1.gb);generalize hn:all.length=n;have hnN:n<=N:=(by have:=hS.le;omega);obtain⟨k,hk,hFk⟩:=hS.fu;obtain⟨k,rfl⟩:∃j,k=j+1:=⟨k - 1,by omega⟩
  have hxl:x'.1<=8*s.size:=(by obtain⟨r1,_,i1,_⟩:=hS.ex;exact i1.rd.le);have HS:=qH hS;by_cases hlt:n<N
  · have hRun:=hS.run hs hg hq
    cases hr:z9r l s D L x' with
    |error c=>
     have hFc:F=.error c:=(by rw[<-hFk];exact z0f (zhh (by omega) hr));subst hFc;simp only[hr] at hRun;have HRun:=qH hRun;clear hRun hr hFk hk hS hn;go_wp2_with (go_at_call 255;(with_reducible refine HRun.o.mono ?_);rintro e w1 ⟨rfl,k1⟩;have K1:=qH k1;clear k1);exact⟨rfl,rfl,K1.o⟩
    |ok pp=>
     obtain⟨⟨y,e⟩,x1⟩:=pp;simp only[hr] at hRun;obtain⟨hy,he,hx1,hx1l,htm⟩:=zgx hr hxl;have hlen:=zhg (all:=all) (by omega:¬N<=all.length) hr;have HT:=qH (λ(W:World) (hT:U.Tab W)=>U.times_any y e W hT (by omega) (by omega));obtain⟨T,hT⟩:∃T,tms ⟨y,e⟩=T:=⟨_,rfl⟩
     have hT138:T<=138:=(by rw[<-hT];exact z9L _);rw[hT] at HT hlen htm;generalize hbt:(decide (0<T))=bt at HT;have HRun:=qH (show Calls prog 255 #[.pointer (some ⟨g,0,none⟩),.pointer (some ⟨p,0,none⟩)] wr λe' w'=>e'=.returned (.agg #[.int .u8 (y:Nat),.int .u8 (e:Nat)])/\(∃r1,(r1=r\/w.heap.size<=r1)/\In w' B g q r1 s D L x1/\Tb w' r1 p l 19)/\Kept (Ch g q r) w w'/\TB B w'/\∀Rs,U.Owr w.heap.size wr u7 Rs->U.Owr w.heap.size w' u7 Rs from hRun);clear hRun hr hbt hS;obtain⟨m,hm⟩:∃m,N - n=m:=⟨_,rfl⟩
     have hsub:(N:Int) - (n:Int)=(m:Int):=(by omega);by_cases hbad:(y=16/\all=[])\/N<all.length+T
     · rw[if_pos hbad] at hlen
       have hFc:F=.error 162:=(by rw[<-hFk];exact z0f hlen);subst hFc;clear hlen hFk hk;have hall:all=[]↔n=0:=(by rw[<-hn];exact⟨λe=>by rw[e];rfl,λe=>List.length_eq_zero_iff.1 e⟩);have hbad':(y=16/\n=0)\/m<T:=(by rcases hbad with⟨a,b⟩|b;exact .inl ⟨a,hall.1 b⟩;exact .inr (by omega));clear hbad hall hn hT;by_cases hy16:y=16
       · have e1:((y:Int)==16)=true:=by rw[beq_iff_eq];omega
         clear hy16;by_cases hn0:n=0
         · subst hn0
           clear hbad' htm
           go_wp2_with (first
            |(go_at_call 255;(with_reducible refine HRun.o.mono ?_);rintro e' w1 ⟨rfl,q1,q2,q3,q4⟩;obtain⟨Q1,Q2,Q3,Q4⟩:=qh4 q1 q2 q3 q4;have hTb:=z9l q3;have HTb:=qH hTb;clear q1 q2 q3 q4 hTb)
            |(go_at_call 256;(with_reducible refine(HT.o _ (U.Tab.below HTb.o (qL) qR)).mono ?_);rintro e' w2 ⟨rfl,b2⟩;have hx9:=heap_alloc_new w1 (.cells #[.int .u8 (y:Nat),.int .u8 (e:Nat)] 225);have hy9:=(b2.block w1.heap.size (by simp)).trans hx9;have f20:=(z07 hy9).1;have f21:=(z07 hy9).2.1;clear hx9 hy9;have B2:=qH b2;clear b2)
            |(go_at_call 171;(with_reducible refine(z0O _).mono ?_);rintro e' w3 ⟨rfl,k3⟩;have K3:=qH k3;clear k3))
           exact⟨rfl,rfl,((Q2.o.alloc _).trans (Kept.of_below B2.o) (λ_ e=>e.elim)).trans K3.o (λ_ e=>e.elim)⟩
         · have hmT:m<T:=hbad'.resolve_left (λq=>hn0 q.2)
           have d1:((n:Int)==0)=false:=(by rw[qN];omega);have d4:decide (m<T)=true:=q9T hmT;clear hbad' htm hn0 hmT
           go_wp2_with (first
            |(go_at_call 255;(with_reducible refine HRun.o.mono ?_);rintro e' w1 ⟨rfl,q1,q2,q3,q4⟩;obtain⟨Q1,Q2,Q3,Q4⟩:=qh4 q1 q2 q3 q4;have hTb:=z9l q3;have HTb:=qH hTb;clear q1 q2 q3 q4 hTb)
            |(go_at_call 256;(with_reducible refine(HT.o _ (U.Tab.below HTb.o (qL) qR)).mono ?_);rintro e' w2 ⟨rfl,b2⟩;have hx9:=heap_alloc_new w1 (.cells #[.int .u8 (y:Nat),.int .u8 (e:Nat)] 225);have hy9:=(b2.block w1.heap.size (by simp)).trans hx9;have f20:=(z07 hy9).1;have f21:=(z07 hy9).2.1;clear hx9 hy9;have B2:=qH b2;clear b2)
            |(go_at_call 171;(with_reducible refine(z0O _).mono ?_);rintro e' w3 ⟨rfl,k3⟩;have K3:=qH k3;clear k3))
           exact⟨rfl,rfl,((Q2.o.alloc _).trans (Kept.of_below B2.o) (λ_ e=>e.elim)).trans K3.o (λ_ e=>e.elim)⟩
       · have hmT:m<T:=hbad'.resolve_left (λq=>hy16 q.1)
         have d1:((y:Int)==16)=false:=(by rw[qN];omega);have d4:decide (m<T)=true:=q9T hmT;clear hbad' htm hy16 hmT
         go_wp2_with (first
          |(go_at_call 255;(with_reducible refine HRun.o.mono ?_);rintro e' w1 ⟨rfl,q1,q2,q3,q4⟩;obtain⟨Q1,Q2,Q3,Q4⟩:=qh4 q1 q2 q3 q4;have hTb:=z9l q3;have HTb:=qH hTb;clear q1 q2 q3 q4 hTb)
          |(go_at_call 256;(with_reducible refine(HT.o _ (U.Tab.below HTb.o (qL) qR)).mono ?_);rintro e' w2 ⟨rfl,b2⟩;have hx9:=heap_alloc_new w1 (.cells #[.int .u8 (y:Nat),.int .u8 (e:Nat)] 225);have hy9:=(b2.block w1.heap.size (by simp)).trans hx9;have f20:=(z07 hy9).1;have f21:=(z07 hy9).2.1;clear hx9 hy9;have B2:=qH b2;clear b2)
          |(go_at_call 171;(with_reducible refine(z0O _).mono ?_);rintro e' w3 ⟨rfl,k3⟩;have K3:=qH k3;clear k3))
         exact⟨rfl,rfl,((Q2.o.alloc _).trans (Kept.of_below B2.o) (λ_ e=>e.elim)).trans K3.o (λ_ e=>e.elim)⟩
     · rw[if_neg hbad] at hlen
       have hgo:=(z1d (k:=k) hlen).symm.trans hFk;have hall:all=[]↔n=0:=(by rw[<-hn];exact⟨λe=>by rw[e];rfl,λe=>List.length_eq_zero_iff.1 e⟩);have hok1:¬(y=16/\n=0):=λq=>hbad (.inl ⟨q.1,hall.2 q.2⟩)
       have hok2:¬m<T:=λq=>hbad (.inr (by omega))
       obtain⟨Rs,ho,ho0,hu,hrl,hro⟩:=HS.o.rs;have hrl2:Rs.length<=400:=(by omega);have huS:∀rest,unp N [] ((Rs++[⟨y,e⟩])++rest)=unp N (all++List.replicate T (vlr all ⟨y,e⟩)) rest:=λrest=>by
        rw[qD,hu ([(⟨y,e⟩:Rn)]++rest)];have:=z2R (n:=N) (out:=all) (r:=⟨y,e⟩) (L:=rest) (by rw[hT];exact htm) (λq=>hbad (.inl q)) (by rw[hT];omega);rw[hT] at this;exact this
       have hn2:(all++List.replicate T (vlr all ⟨y,e⟩)).length=n+T:=(by rw[qA,List.length_replicate,hn]);generalize hall2:all++List.replicate T (vlr all ⟨y,e⟩)=all2 at hgo huS hn2;obtain⟨HGo,HU,HN2,HO,HO0,HRo,HRl,HHn⟩:=qh8 hgo huS hn2 ho ho0 hro hrl hn;have hkk:8*s.size - x1.1<k:=(by omega);have hn2':n+T<=N:=(by omega);obtain⟨n3,hn3⟩:∃n3,n+T=n3:=⟨_,rfl⟩
       have hadd:(n:Int)+(T:Int)=(n3:Int):=(by omega);clear hlen hFk hk hbad hall ho ho0 hu hrl hro hgo huS hn2 hall2 hn hT hx1 hx1l;have hd4:decide (m<T)=false:=qF hok2;by_cases hy16:y=16
       · have hn0:¬n=0:=λq=>hok1 ⟨hy16,q⟩
         have e1:((y:Int)==16)=true:=(by rw[beq_iff_eq];omega);have d1:((n:Int)==0)=false:=(by rw[qN];omega);clear hy16 hok1 hok2 hn0
         go_wp2_with (first
          |(go_at_call 255;(with_reducible refine HRun.o.mono ?_);rintro e' w1 ⟨rfl,q1,q2,q3,q4⟩;obtain⟨Q1,Q2,Q3,Q4⟩:=qh4 q1 q2 q3 q4;have hTb:=z9l q3;have HTb:=qH hTb;clear q1 q2 q3 q4 hTb)
          |(go_at_call 256;(with_reducible refine(HT.o _ (U.Tab.below HTb.o (qL) qR)).mono ?_);rintro e' w2 ⟨rfl,b2⟩;have hx9:=heap_alloc_new w1 (.cells #[.int .u8 (y:Nat),.int .u8 (e:Nat)] 225);have hy9:=(b2.block w1.heap.size (by simp)).trans hx9;have f20:=(z07 hy9).1;have f21:=(z07 hy9).2.1;have hb12:=((Below.refl w1.heap.size w1).alloc qR _).trans (b2.mono (by simp));have HB3:=qH (hb12.alloc hb12.size (.cells #[.int .u8 (y:Nat),.int .u8 (e:Nat)] 225));have hsw2:=qK Q2.o.size hb12.size;clear hx9 hy9 hb12;have B2:=qH b2;clear b2)
          |(at_builtin;refine U.wpList_ar rfl (.tmp 40) (.tmp 42) rfl w.heap.size u7 Rs rfl ((Q4.o Rs HO.o).below HB3.o) w2.heap.size 1 y e rfl ⟨by simp,by simp⟩ (by omega) (by simp;omega) ?_;intro v9 w4 g1 g2 g3;have HL9:=qH (LS.grow (N:=N) (F:=F) (all2:=all2) hBg hg hq Q1.o Q2.o Q3.o (Q4.o Rs HO.o) HO0.o HB3.o g1 g2 HU.o (by rw[qA,HN2.o];have:=HRl.o;rw[HHn.o] at this;simp only[List.length_singleton];omega) (λt9 h9=>by rcases List.mem_append.1 h9 with q9|q9;exact HRo.o t9 q9;obtain rfl:=List.mem_singleton.1 q9;exact⟨hy,he⟩) (by rw[HN2.o];omega) ⟨k,hkk,HGo.o⟩);clear g1 g2 g3))
         go_roundw
         case rel=>exact⟨all2,x1,by rw[HN2.o,hn3],HL9.o⟩
         case measure=>simp[intOf];omega
       · skip
         have e1:((y:Int)==16)=false:=(by rw[qN];omega);clear hy16 hok1 hok2
         go_wp2_with (first
          |(go_at_call 255;(with_reducible refine HRun.o.mono ?_);rintro e' w1 ⟨rfl,q1,q2,q3,q4⟩;obtain⟨Q1,Q2,Q3,Q4⟩:=qh4 q1 q2 q3 q4;have hTb:=z9l q3;have HTb:=qH hTb;clear q1 q2 q3 q4 hTb)
          |(go_at_call 256;(with_reducible refine(HT.o _ (U.Tab.below HTb.o (qL) qR)).mono ?_);rintro e' w2 ⟨rfl,b2⟩;have hx9:=heap_alloc_new w1 (.cells #[.int .u8 (y:Nat),.int .u8 (e:Nat)] 225);have hy9:=(b2.block w1.heap.size (by simp)).trans hx9;have f20:=(z07 hy9).1;have f21:=(z07 hy9).2.1;have hb12:=((Below.refl w1.heap.size w1).alloc qR _).trans (b2.mono (by simp));have HB3:=qH (hb12.alloc hb12.size (.cells #[.int .u8 (y:Nat),.int .u8 (e:Nat)] 225));have hsw2:=qK Q2.o.size hb12.size;clear hx9 hy9 hb12;have B2:=qH b2;clear b2)
          |(at_builtin;refine U.wpList_ar rfl (.tmp 40) (.tmp 42) rfl w.heap.size u7 Rs rfl ((Q4.o Rs HO.o).below HB3.o) w2.heap.size 1 y e rfl ⟨by simp,by simp⟩ (by omega) (by simp;omega) ?_;intro v9 w4 g1 g2 g3;have HL9:=qH (LS.grow (N:=N) (F:=F) (all2:=all2) hBg hg hq Q1.o Q2.o Q3.o (Q4.o Rs HO.o) HO0.o HB3.o g1 g2 HU.o (by rw[qA,HN2.o];have:=HRl.o;rw[HHn.o] at this;simp only[List.length_singleton];omega) (λt9 h9=>by rcases List.mem_append.1 h9 with q9|q9;exact HRo.o t9 q9;obtain rfl:=List.mem_singleton.1 q9;exact⟨hy,he⟩) (by rw[HN2.o];omega) ⟨k,hkk,HGo.o⟩);clear g1 g2 g3))
         go_roundw
         case rel=>exact⟨all2,x1,by rw[HN2.o,hn3],HL9.o⟩
         case measure=>simp[intOf];omega
  · obtain rfl:n=N:=by omega
    have hFe:F=.ok (all,x'):=(by rw[<-hFk];exact z0E (zdX (by omega)));subst hFe;obtain⟨Rs,ho,ho0,hu,hrl,hro⟩:=hS.rs;obtain⟨A,c,hv,hI⟩:=ho.rns (λt h9=>by have:=hro t h9;omega) (by unfold maxLen;omega);subst hv;have hup:unp n [] Rs=(0,all):=by
     have:=hu [];rw[List.append_nil] at this;rw[this,z9G (by omega)]
    have hU:=U.unpack_any A Rs.length c Rs n wr (z9l hS.tb) hI (by omega) (by omega);rw[hup] at hU;unfold U.UnC at hU;rw[hn] at hU;obtain⟨r1,hr1,i1,t1⟩:=hS.ex;obtain⟨HU,HI1,HR1,HKp,HHn⟩:=qh5 hU i1 hr1 hS.kp hn;clear hFk hk hu hrl hro ho ho0 hI hup hU i1 t1 hr1 hS hn;go_wp2_with (go_at_call 257;(with_reducible refine HU.o.mono ?_);rintro e' w1 ⟨A',c',rfl,y1,y2,y3⟩;obtain⟨Y1,Y2,Y3⟩:=qh3 y1 y2 y3;clear y1 y2 y3);go_ret;exact⟨⟨A',c',rfl,HHn.o,Y1.o,Y2.o⟩,HKp.o.trans (Kept.of_below Y3.o) (λ_ e=>e.elim),r1,HR1.o,HI1.o.below Y3.o⟩
end
theorem zje(K:Nat)(s:ByteArray)(D L:Nat)(x:St):dyn K s D L x=bnd (bits 5) (λa=>bnd (bits 5) λb=>bnd (bits 4) λk=>if 286<a+257\/30<b+1 then fl 162 else bnd (ltR (k+4)) λo=>bnd (loopR (len1 o (a+257+(b+1))) K []) λall=>tabR all (a+257) (b+1)) s D L x:=by
 unfold dyn;congr 1;funext a;congr 1;funext b;congr 1;funext k
 split
 · rfl
 · funext s D L x
   unfold ltR;cases h1:ownR (k+4) 0 (λ_=>0) s D L x with
   |error e=>rw[z03 h1,z03 (z03 h1)]
   |ok p=>
    rw[z00 h1];by_cases h2:kind p.1 19≠2
    · rw[if_pos h2,z03 (e:=162) (by rw[z00 h1,if_pos h2];rfl)]
      rfl
    · rw[if_neg h2,z00 (a:=p.1) (y:=p.2) (by rw[z00 h1,if_neg h2];rfl)]
def zcC(w:World)(B g q r:Nat)(s:ByteArray)(D L:Nat)(l:Nat->Nat)(n:Nat)(d:Nat->Nat)(m:Nat)(y:St)(e:Ending)(w':World):Prop:=
 ∃p1 p2 r',e=.returned (.agg #[.pointer (some ⟨p1,0,none⟩),.pointer (some ⟨p2,0,none⟩)])/\Kept (Ch g q r) w w'/\(r'=r\/w.heap.size<=r')/\In w' B g q r' s D L y/\Tb w' r' p1 l n/\Tb w' r' p2 d m
theorem z2H{w:World}{b o N:Nat}{all:List Nat}(h:U.IsBys w (some ⟨b,o,none⟩) N all)(i n:Nat)(hn:i+n<=N):z0e w .u8 (some ⟨b,o+i,none⟩) n (λj=>((all.getD (i+j) 0:Nat):Int)):=λh0=>by
 obtain⟨b',o',e,h1,h2⟩:=h.at (by omega);injection e with e
 injection e with e1 e2
 subst e1;subst e2;exact⟨b,o+i,rfl,h1,λj hj=>by have:=h2 (i+j) (by omega);rw[<-Nat.add_assoc] at this;exact this⟩
section
variable {w0 w:World} {B g q r D L:Nat} {s:ByteArray} {x:St}
theorem Res.lt(h:Res w0 B g q r s D L x w)(hs:s.size<=100000)(k:Nat)(hk:k<=19):
 Calls prog 214 #[.pointer (some ⟨g,0,none⟩),.int .i64 k] w λe w'=>
  match ltR k s D L x with
  |.ok p=>zjI w0 B g q r s D L p e w'
  |.error c=>e=.panicked (flt c)/\Kept (Ch g q r) w0 w':=by
 obtain⟨kk,r1,hr1,i1⟩:=h;refine(z6v i1 hs k hk).mono λe w' o=> ?_
 have hss:=kk.size;cases hl:ltR k s D L x with
 |error c=>rw[hl] at o;exact⟨o.1,Kept.ch_trans kk o.2 hr1⟩
 |ok p=>
  rw[hl] at o;obtain⟨t,r2,e1,k2,hr2,i2,t2⟩:=o;refine⟨t,r2,e1,Kept.ch_trans kk k2 hr1,?_,i2,t2⟩;rcases hr2 with e|e
  · rw[e];exact hr1
  · exact .inr (by omega)
theorem zfx{r1 p:Nat}{o:Nat->Nat}(hk:Kept (Ch g q r) w0 w)(hr1:r1=r\/w0.heap.size<=r1)(i1:In w B g q r1 s D L x)(t1:Tb w r1 p o 19)(hs:s.size<=100000)(ht:TB B w)(N K:Nat)(hN:N<=400)(hK:8*s.size - x.1<K):
 Calls prog 213 #[.pointer (some ⟨g,0,none⟩),.pointer (some ⟨p,0,none⟩),.int .i64 N] w (Out w0 B g q r s D L (loopR (len1 o N) K [] s D L x) λall e w'=>zeW w N all e w'):=by
 refine(zj1 i1 hs ht t1 N K hN hK).mono λe w' o'=> ?_
 cases hl:loopR (len1 o N) K [] s D L x with
 |error c=>rw[hl] at o';exact⟨o'.1,Kept.ch_trans hk o'.2 hr1⟩
 |ok p=>rw[hl] at o';exact⟨o'.1,Res.trans (y:=x) hk hr1 o'.2⟩
theorem zbK(h:In w B g q r s D L x)(hs:s.size<=100000)(ht:TB B w)(K:Nat)(hK:8*s.size - x.1<K):
 Calls prog 169 #[.pointer (some ⟨g,0,none⟩)] w λe w'=>
  match dyn K s D L x with
  |.ok p=>zcC w B g q r s D L (lit p.1.1) p.1.2.1 (dis p.1.1 p.1.2.1) p.1.2.2 p.2 e w'
  |.error c=>e=.panicked (flt c)/\Kept (Ch g q r) w w':=by
 generalize hR:dyn K s D L x=R;rw[zje] at hR;have hkA:Kept NoB w (w.alloc (.cells #[.pointer none,.pointer none] 177)):=(Kept.refl _ _).alloc _;have hnew:(w.alloc (.cells #[.pointer none,.pointer none] 177)).heap[w.heap.size]? =some (.cells #[.pointer none,.pointer none] 177 (0,0)):=heap_alloc_new _ _;have hsz:(w.alloc (.cells #[.pointer none,.pointer none] 177)).heap.size=w.heap.size+1:=(by simp);generalize hw0:w.alloc (.cells #[.pointer none,.pointer none] 177)=w0 at hkA hnew hsz;generalize hb:w.heap.size=b at hnew hsz;have hgb:g<b:=(by have:=h.glt;omega);have hqb:q<b:=(by have:=h.rd.lt;omega);have hrb:r<b:=(by have:=h.rlt;omega);have i0:=h.same hkA;have htb0:TB B w0:=ht.go (h.bl (hkA.none _));have HS0:=qH i0.start;have HTb:=qH (λ(W:World) (k:Kept (Ch g q r) w0 W)=>(show TB B W from htb0.go (i0.bl k)))
 have HF:=qH (λ(W:World) (k:Kept (Ch g q r) w0 W)=>(show W.heap[b]? =some (.cells #[.pointer none,.pointer none] 177 (0,0)) from
  (k.block b (by omega) (λe=>by rcases e with e|e|e<;>omega)).trans hnew))
 have HE:=qH (λ(W:World) (k:Kept (Ch g q r) w0 W)=>(show Kept (Ch g q r) w W from(hkA.none _).trans k (λ_ e=> .inl e)));have HxK:=qH (λ(y:Nat) (hy:x.1<=y)=>(show 8*s.size - y<K from by omega));clear h ht hkA hnew i0 htb0;cases h1:bits 5 s D L x with
 |error c=>
  rw[z03 h1] at hR;subst hR
  have HB1:=qH (λ(W:World) (o:Res w0 B g q r s D L x W)=>(show Calls prog 166 #[.pointer (some ⟨g,0,none⟩),.int .i64 5] W λe w'=>e=.panicked (flt c)/\Kept (Ch g q r) w0 w' from by
   have:=o.lift (λr i=>z8e i hs);rw[h1] at this;exact this))
  clear h1;go_enter func169,ntmps169
  go_wp2_with (first
   |(go_at_call 166;(with_reducible refine(HB1.o _ HS0.o).mono ?_);rintro e w1 ⟨rfl,k1⟩;have K1:=qH k1;clear k1))
  exact⟨rfl,rfl,HE.o _ K1.o⟩
 |ok pp=>
  obtain⟨a,x1⟩:=pp;rw[z00 h1] at hR;obtain⟨hn1,hx1⟩:=z0l h1 32 (by decide);have hm1:x.1<=x1.1:=by rw[hx1];simp only;omega
  have HB1:=qH (λ(W:World) (o:Res w0 B g q r s D L x W)=>(show Calls prog 166 #[.pointer (some ⟨g,0,none⟩),.int .i64 5] W λe w'=>e=.returned (.int .i64 a)/\Res w0 B g q r s D L x1 w' from by
   have:=o.lift (λr i=>z8e i hs);rw[h1] at this;exact this))
  clear h1 hx1;cases h2:bits 5 s D L x1 with
  |error c=>
   rw[z03 h2] at hR;subst hR;have HB2:=qH (λ(W:World) (o:Res w0 B g q r s D L x1 W)=>(show Calls prog 166 #[.pointer (some ⟨g,0,none⟩),.int .i64 5] W λe w'=>e=.panicked (flt c)/\Kept (Ch g q r) w0 w' from by
   have:=o.lift (λr i=>z8e i hs);rw[h2] at this;exact this))
   clear h2;go_enter func169,ntmps169
   go_wp2_with (first
    |(go_at_call 166;(with_reducible refine(HB1.o _ HS0.o).mono ?_);rintro e w1 ⟨rfl,o1⟩;have O1:=qH o1;clear o1)
    |(go_at_call 166;(with_reducible refine(HB2.o _ O1.o).mono ?_);rintro e w2 ⟨rfl,k2⟩;have K2:=qH k2;clear k2))
   exact⟨rfl,rfl,HE.o _ K2.o⟩
  |ok pp=>
   obtain⟨bd,x2⟩:=pp;rw[z00 h2] at hR;obtain⟨hn2,hx2⟩:=z0l h2 32 (by decide);have hm2:x1.1<=x2.1:=(by rw[hx2];simp only;omega);have HB2:=qH (λ(W:World) (o:Res w0 B g q r s D L x1 W)=>(show Calls prog 166 #[.pointer (some ⟨g,0,none⟩),.int .i64 5] W λe w'=>e=.returned (.int .i64 bd)/\Res w0 B g q r s D L x2 w' from by
   have:=o.lift (λr i=>z8e i hs);rw[h2] at this;exact this))
   clear h2 hx2;cases h3:bits 4 s D L x2 with
   |error c=>
    rw[z03 h3] at hR;subst hR;have HB3:=qH (λ(W:World) (o:Res w0 B g q r s D L x2 W)=>(show Calls prog 166 #[.pointer (some ⟨g,0,none⟩),.int .i64 4] W λe w'=>e=.panicked (flt c)/\Kept (Ch g q r) w0 w' from by
   have:=o.lift (λr i=>zfQ i hs);rw[h3] at this
   exact this))
    clear h3;go_enter func169,ntmps169
    go_wp2_with (first
     |(go_at_call 166;(with_reducible refine(HB1.o _ HS0.o).mono ?_);rintro e w1 ⟨rfl,o1⟩;have O1:=qH o1;clear o1)
     |(go_at_call 166;(with_reducible refine(HB2.o _ O1.o).mono ?_);rintro e w2 ⟨rfl,o2⟩;have O2:=qH o2;clear o2)
     |(go_at_call 166;(with_reducible refine(HB3.o _ O2.o).mono ?_);rintro e w3 ⟨rfl,k3⟩;have K3:=qH k3;clear k3))
    exact⟨rfl,rfl,HE.o _ K3.o⟩
   |ok pp=>
    obtain⟨k,x3⟩:=pp;rw[z00 h3] at hR;obtain⟨hn3,hx3⟩:=z0l h3 16 (by decide);have hm3:x2.1<=x3.1:=(by rw[hx3];simp only;omega);have HB3:=qH (λ(W:World) (o:Res w0 B g q r s D L x2 W)=>(show Calls prog 166 #[.pointer (some ⟨g,0,none⟩),.int .i64 4] W λe w'=>e=.returned (.int .i64 k)/\Res w0 B g q r s D L x3 w' from by
   have:=o.lift (λr i=>zfQ i hs);rw[h3] at this
   exact this))
    clear h3 hx3;obtain⟨lt,hlt⟩:∃lt,a+257=lt:=⟨_,rfl⟩
    obtain⟨ds,hds⟩:∃ds,bd+1=ds:=⟨_,rfl⟩
    obtain⟨kn,hkn⟩:∃kn,k+4=kn:=⟨_,rfl⟩
    rw[hlt,hds,hkn] at hR;have ea:(257:Int)+(a:Int)=(lt:Int):=(by omega);have eb:(1:Int)+(bd:Int)=(ds:Int):=(by omega);have ek:(4:Int)+(k:Int)=(kn:Int):=(by omega);have hk1:kn<=19:=(by omega);by_cases hbad:286<lt\/30<ds
    · rw[if_pos hbad] at hR
      have hR2:R=.error 162:=hR.symm;subst hR2;clear hR hlt hds hkn;by_cases hq:286<lt
      · have d1:decide ((286:Int)<(lt:Int))=true:=q9T (by omega)
        clear hbad hq;go_enter func169,ntmps169
        go_wp2_with (first
         |(go_at_call 166;(with_reducible refine(HB1.o _ HS0.o).mono ?_);rintro e w1 ⟨rfl,o1⟩;have O1:=qH o1;clear o1)
         |(go_at_call 166;(with_reducible refine(HB2.o _ O1.o).mono ?_);rintro e w2 ⟨rfl,o2⟩;have O2:=qH o2;clear o2)
         |(go_at_call 166;(with_reducible refine(HB3.o _ O2.o).mono ?_);rintro e w3 ⟨rfl,o3⟩;have O3:=qH o3;clear o3)
         |(go_at_call 171;(with_reducible refine(z0O _).mono ?_);rintro e w4 ⟨rfl,k4⟩;have K4:=qH k4;clear k4))
        exact⟨rfl,rfl,HE.o _ (O3.o.end_ K4.o)⟩
      · have hq2:=hbad.resolve_left hq
        have d1:decide ((286:Int)<(lt:Int))=false:=qF (by omega);have d3:decide ((30:Int)<(ds:Int))=true:=q9T (by omega);clear hbad hq hq2;go_enter func169,ntmps169
        go_wp2_with (first
         |(go_at_call 166;(with_reducible refine(HB1.o _ HS0.o).mono ?_);rintro e w1 ⟨rfl,o1⟩;have O1:=qH o1;clear o1)
         |(go_at_call 166;(with_reducible refine(HB2.o _ O1.o).mono ?_);rintro e w2 ⟨rfl,o2⟩;have O2:=qH o2;clear o2)
         |(go_at_call 166;(with_reducible refine(HB3.o _ O2.o).mono ?_);rintro e w3 ⟨rfl,o3⟩;have O3:=qH o3;clear o3)
         |(go_at_call 171;(with_reducible refine(z0O _).mono ?_);rintro e w4 ⟨rfl,k4⟩;have K4:=qH k4;clear k4))
        exact⟨rfl,rfl,HE.o _ (O3.o.end_ K4.o)⟩
    · rw[if_neg hbad] at hR
      have hl2:lt<=286:=(by omega);have hd2:ds<=30:=(by omega);have d1:decide ((286:Int)<(lt:Int))=false:=qF (by omega);have d3:decide ((30:Int)<(ds:Int))=false:=qF (by omega);clear hbad hlt hds hkn;generalize hN:lt+ds=N at hR;have eN:(lt:Int)+(ds:Int)=(N:Int):=(by omega);have hN4:N<=316/\258<=N:=(by omega);cases h4:ltR kn s D L x3 with
      |error c=>
       rw[z03 h4] at hR;subst hR
       have HT:=qH (λ(W:World) (o:Res w0 B g q r s D L x3 W)=>(show Calls prog 214 #[.pointer (some ⟨g,0,none⟩),.int .i64 kn] W λe w'=>e=.panicked (flt c)/\Kept (Ch g q r) w0 w' from by
        have:=o.lt hs kn hk1;simp only[h4] at this;exact this))
       clear h4;go_enter func169,ntmps169
       go_wp2_with (first
        |(go_at_call 166;(with_reducible refine(HB1.o _ HS0.o).mono ?_);rintro e w1 ⟨rfl,o1⟩;have O1:=qH o1;clear o1)
        |(go_at_call 166;(with_reducible refine(HB2.o _ O1.o).mono ?_);rintro e w2 ⟨rfl,o2⟩;have O2:=qH o2;clear o2)
        |(go_at_call 166;(with_reducible refine(HB3.o _ O2.o).mono ?_);rintro e w3 ⟨rfl,o3⟩;have O3:=qH o3;clear o3)
        |(go_at_call 214;(with_reducible refine(HT.o _ O3.o).mono ?_);rintro e w4 ⟨rfl,k4⟩;have K4:=qH k4;clear k4))
       exact⟨rfl,rfl,HE.o _ K4.o⟩
      |ok pp=>
       obtain⟨o,x4⟩:=pp;rw[z00 h4] at hR;have hm4:=(z01.bnd (z01.ownR kn 0 _) (λo=>z01.ite (z01.fl 162) (z01.pur o))).mono h4
       have HT:=qH (λ(W:World) (o':Res w0 B g q r s D L x3 W)=>(show Calls prog 214 #[.pointer (some ⟨g,0,none⟩),.int .i64 kn] W λe w'=>zjI w0 B g q r s D L (o,x4) e w' from by
        have:=o'.lt hs kn hk1;simp only[h4] at this;exact this))
       unfold zjI at HT;have hKx:8*s.size - x4.1<K:=HxK.o _ (by omega);clear h4 hm4;cases h5:loopR (len1 o N) K [] s D L x4 with
       |error c=>
        rw[z03 h5] at hR;subst hR
        have HL:=qH (λ(W:World) (t r1:Nat) (hk:Kept (Ch g q r) w0 W) (hr1:r1=r\/w0.heap.size<=r1) (i1:In W B g q r1 s D L x4) (t1:Tb W r1 t o 19)=>(show Calls prog 213 #[.pointer (some ⟨g,0,none⟩),.pointer (some ⟨t,0,none⟩),.int .i64 N] W λe w'=>e=.panicked (flt c)/\Kept (Ch g q r) w0 w' from by
         have:=zfx hk hr1 i1 t1 hs (HTb.o _ hk) N K (by omega) hKx;rw[h5] at this;exact this))
        clear h5;go_enter func169,ntmps169
        go_wp2_with (first
         |(go_at_call 166;(with_reducible refine(HB1.o _ HS0.o).mono ?_);rintro e w1 ⟨rfl,o1⟩;have O1:=qH o1;clear o1)
         |(go_at_call 166;(with_reducible refine(HB2.o _ O1.o).mono ?_);rintro e w2 ⟨rfl,o2⟩;have O2:=qH o2;clear o2)
         |(go_at_call 166;(with_reducible refine(HB3.o _ O2.o).mono ?_);rintro e w3 ⟨rfl,o3⟩;have O3:=qH o3;clear o3)
         |(go_at_call 214;(with_reducible refine(HT.o _ O3.o).mono ?_);rintro e w4 ⟨t4,r4,rfl,k4,g4,i4,u4⟩;obtain⟨K4,G4,I4,U4⟩:=qh4 k4 g4 i4 u4;clear k4 g4 i4 u4)
         |(go_at_call 213;(with_reducible refine(HL.o _ _ _ K4.o G4.o I4.o U4.o).mono ?_);rintro e w5 ⟨rfl,k5⟩;have K5:=qH k5;clear k5))
        exact⟨rfl,rfl,HE.o _ K5.o⟩
       |ok pp=>
        obtain⟨all,x5⟩:=pp;rw[z00 h5] at hR
        have HL:=qH (λ(W:World) (t r1:Nat) (hk:Kept (Ch g q r) w0 W) (hr1:r1=r\/w0.heap.size<=r1) (i1:In W B g q r1 s D L x4) (t1:Tb W r1 t o 19)=>(show Calls prog 213 #[.pointer (some ⟨g,0,none⟩),.pointer (some ⟨t,0,none⟩),.int .i64 N] W λe w'=>zeW W N all e w'/\Res w0 B g q r s D L x5 w' from by
         have:=zfx hk hr1 i1 t1 hs (HTb.o _ hk) N K (by omega) hKx;rw[h5] at this;exact this))
        unfold zeW at HL;clear h5;obtain⟨v,hv⟩:∃v,all.getD 256 0=v:=⟨_,rfl⟩
        unfold tabR at hR;by_cases hz:v=0
        · have hR2:R=.error 162:=by rw[<-hR,if_pos (.inl (hv.trans hz))];rfl
          subst hR2;subst hz;clear hR;go_enter func169,ntmps169
          go_wp2_with (first
           |(go_at_call 166;(with_reducible refine(HB1.o _ HS0.o).mono ?_);rintro e w1 ⟨rfl,o1⟩;have O1:=qH o1;clear o1)
           |(go_at_call 166;(with_reducible refine(HB2.o _ O1.o).mono ?_);rintro e w2 ⟨rfl,o2⟩;have O2:=qH o2;clear o2)
           |(go_at_call 166;(with_reducible refine(HB3.o _ O2.o).mono ?_);rintro e w3 ⟨rfl,o3⟩;have O3:=qH o3;clear o3)
           |(go_at_call 214;(with_reducible refine(HT.o _ O3.o).mono ?_);rintro e w4 ⟨t4,r4,rfl,k4,g4,i4,u4⟩;obtain⟨K4,G4,I4,U4⟩:=qh4 k4 g4 i4 u4;clear k4 g4 i4 u4)
           |(go_at_call 213;(with_reducible refine(HL.o _ _ _ K4.o G4.o I4.o U4.o).mono ?_);rintro e w5 ⟨⟨A5,c5,rfl,l5,y5,m5⟩,o5⟩;obtain⟨b5,q5,rfl,z5,cl5⟩:=y5.at (by omega);have v5:=cl5 256 (by omega);rw[hv] at v5;obtain⟨Y5,O5⟩:=qh2 y5 o5;clear l5 y5 o5 cl5)
           |(go_at_call 171;(with_reducible refine(z0O _).mono ?_);rintro e w6 ⟨rfl,k6⟩;have K6:=qH k6;clear k6))
          exact⟨rfl,rfl,HE.o _ (O5.o.end_ K6.o)⟩
        · have dz1:((v:Int)==0)=false:=by rw[qN];omega
          by_cases htt:¬Tbl (lit all) lt\/¬Tbl (dis all lt) ds
          · have hR2:R=.error 162:=by rw[<-hR,if_pos (.inr htt)];rfl
            subst hR2;clear hR;have HTs:=qH (λ(W:World) (c1 c2 b9 o9:Nat) (hB:U.IsBys W (some ⟨b9,o9,none⟩) N all)=>z69 (some ⟨b9,o9,none⟩) (some ⟨b9,o9+lt,none⟩) lt c1 ds c2 (lit all) (dis all lt) W (by unfold maxLen;omega) (by unfold maxLen;omega) (λi=>hB.le i) (λi=>hB.le (lt+i)) (by have:=z2H hB 0 lt (by omega);simp only[Nat.zero_add,Nat.add_zero] at this;exact this) (z2H hB lt ds (by omega)) htt);unfold z3K at HTs;clear htt;go_enter func169,ntmps169
            go_wp2_with (first
             |(go_at_call 166;(with_reducible refine(HB1.o _ HS0.o).mono ?_);rintro e w1 ⟨rfl,o1⟩;have O1:=qH o1;clear o1)
             |(go_at_call 166;(with_reducible refine(HB2.o _ O1.o).mono ?_);rintro e w2 ⟨rfl,o2⟩;have O2:=qH o2;clear o2)
             |(go_at_call 166;(with_reducible refine(HB3.o _ O2.o).mono ?_);rintro e w3 ⟨rfl,o3⟩;have O3:=qH o3;clear o3)
             |(go_at_call 214;(with_reducible refine(HT.o _ O3.o).mono ?_);rintro e w4 ⟨t4,r4,rfl,k4,g4,i4,u4⟩;obtain⟨K4,G4,I4,U4⟩:=qh4 k4 g4 i4 u4;clear k4 g4 i4 u4)
             |(go_at_call 213;(with_reducible refine(HL.o _ _ _ K4.o G4.o I4.o U4.o).mono ?_);rintro e w5 ⟨⟨A5,c5,rfl,l5,y5,m5⟩,o5⟩;obtain⟨b5,q5,rfl,z5,cl5⟩:=y5.at (by omega);have v5:=cl5 256 (by omega);rw[hv] at v5;obtain⟨Y5,O5⟩:=qh2 y5 o5;clear l5 y5 o5 cl5))
            have s1:lt<=c5:=(by omega);have s2:¬c5=lt:=(by omega);have s3:N - lt=ds:=(by omega);have s4:lt<=N:=(by omega);obtain⟨c6,hc6⟩:∃c6,c5 - lt=c6:=⟨_,rfl⟩
            have hb5:b<w5.heap.size:=by have:=O5.o.kept.size;omega
            go_still_tail 6,(by kernel_rfl)
            go_wp2_with (go_at_call 210;(with_reducible refine(HTs.o _ c5 c6 b5 q5 (Y5.o.below ((Below.refl _ _).drew))).mono ?_);rintro e w6 ⟨rfl,b6⟩;have B6:=qH b6;clear b6);exact⟨rfl,rfl,HE.o _ ((O5.o.kept.drew).trans (Kept.of_below B6.o) (λ_ e=>e.elim))⟩
          · have hR2:R=.ok ((all,lt,ds),x5):=by rw[<-hR,if_neg (λe=>by rcases e with e|e;exact hz (hv.symm.trans e);exact htt e)];rfl
            subst hR2;clear hR;have ht1:Tbl (lit all) lt:=Classical.byContradiction λe=>htt (.inl e)
            have ht2:Tbl (dis all lt) ds:=Classical.byContradiction λe=>htt (.inr e)
            have HTs:=qH (λ(W:World) (c1 c2 b9 o9:Nat) (hB:U.IsBys W (some ⟨b9,o9,none⟩) N all)=>z2i (some ⟨b9,o9,none⟩) (some ⟨b9,o9+lt,none⟩) lt c1 ds c2 (lit all) (dis all lt) W (λi=>hB.le i) (λi=>hB.le (lt+i)) (by have:=z2H hB 0 lt (by omega);simp only[Nat.zero_add,Nat.add_zero] at this;exact this) (z2H hB lt ds (by omega)) ht1 ht2);unfold zeV at HTs;clear htt;go_enter func169,ntmps169
            go_wp2_with (first
             |(go_at_call 166;(with_reducible refine(HB1.o _ HS0.o).mono ?_);rintro e w1 ⟨rfl,o1⟩;have O1:=qH o1;clear o1)
             |(go_at_call 166;(with_reducible refine(HB2.o _ O1.o).mono ?_);rintro e w2 ⟨rfl,o2⟩;have O2:=qH o2;clear o2)
             |(go_at_call 166;(with_reducible refine(HB3.o _ O2.o).mono ?_);rintro e w3 ⟨rfl,o3⟩;have O3:=qH o3;clear o3)
             |(go_at_call 214;(with_reducible refine(HT.o _ O3.o).mono ?_);rintro e w4 ⟨t4,r4,rfl,k4,g4,i4,u4⟩;obtain⟨K4,G4,I4,U4⟩:=qh4 k4 g4 i4 u4;clear k4 g4 i4 u4)
             |(go_at_call 213;(with_reducible refine(HL.o _ _ _ K4.o G4.o I4.o U4.o).mono ?_);rintro e w5 ⟨⟨A5,c5,rfl,l5,y5,m5⟩,o5⟩;obtain⟨b5,q5,rfl,z5,cl5⟩:=y5.at (by omega);have v5:=cl5 256 (by omega);rw[hv] at v5;obtain⟨Y5,O5⟩:=qh2 y5 o5;clear l5 y5 o5 cl5))
            have s1:lt<=c5:=(by omega);have s2:¬c5=lt:=(by omega);have s3:N - lt=ds:=(by omega);have s4:lt<=N:=(by omega);obtain⟨c6,hc6⟩:∃c6,c5 - lt=c6:=⟨_,rfl⟩
            have hb5:b<w5.heap.size:=by have:=O5.o.kept.size;omega
            go_region_with (go_at_call 210;(with_reducible refine(HTs.o _ c5 c6 b5 q5 (Y5.o.below ((Below.refl _ _).drew))).mono ?_);(rintro e w6 ⟨p1,p2,rfl,hp1,hp2,b6,t6⟩;have f6:=(b6.block b hb5).trans (HF.o _ O5.o.kept.drew);have f60:=(z07 f6).1;have f61:=(z07 f6).2.1;have f62:=(z07 f6).2.2.1;have f63:=(z07 f6).2.2.2;obtain⟨F6,T6,B6⟩:=qh3 f6 t6 b6;clear b6 t6 f6))
            go_wp2_with fail;refine bodyPost_ret (v:=.agg #[.pointer (some ⟨p1,0,none⟩),.pointer (some ⟨p2,0,none⟩)]) (results_cell_row rfl _ _ b _ _ _ _ rfl (z2S F6.o _ _) underlying177 rfl z2r) rfl ?_
            obtain⟨k5,r5,hr5,i5⟩:=O5.o;have hr5l:=i5.rlt;have i6:In w6 B g q r5 s D L x5:=(i5.same ((Kept.refl NoB w5).drew)).below B6.o;have k7:Kept (λj=>j=b) w6 ((w6.setCell ⟨b,0,none⟩ (.pointer (some ⟨p1,0,none⟩))).setCell ⟨b,1,none⟩ (.pointer (some ⟨p2,0,none⟩))):=((Kept.refl (λj=>j=b) w6).setCell ⟨b,0,none⟩ (.inl rfl) _).setCell ⟨b,1,none⟩ (.inl rfl) _;refine⟨p1,p2,r5,rfl,(HE.o _ ((k5.drew).trans (Kept.of_below B6.o) (λ_ e=>e.elim))).trans k7 (λj e=> .inr (by omega)),?_,i6.other k7 (by omega) (by omega) (by rcases hr5 with e|e<;>omega) ⟨_,(z07 F6.o).1,λz=>⟨λe=>(by cases e),λe=>(by cases e)⟩⟩,(T6.o r5 hr5l).1.two F6.o (λ_=>⟨λe=>(by cases e),λe=>(by cases e)⟩) _ _,(T6.o r5 hr5l).2.two F6.o (λ_=>⟨λe=>(by cases e),λe=>(by cases e)⟩) _ _⟩;rcases hr5 with e|e
            · exact .inl e
            · exact .inr (by omega)
end
theorem z8D{ops:Array Oper}{o:Oper}{a:Act}{w:World}{K:Act->World->Prop}{Q:Exit->Act->World->Prop}{E:Prop}(hgd:o.guard=none)(s x:Operand)
 (ho:o.op=.call {callee:=.builtin .append,args:= #[s,x],argTypes:= #[26,26]}) (A:Option Addr) (hs:a.eval s=.slice A 30 30) (h:z0e w .u8 A 30 (λ_=>((5:Nat):Int)))
 (ad:Nat) (c:Nat) (hx:a.eval x=.slice (some ⟨ad,0,none⟩) 2 c) (hc:w.cell? ⟨ad,0,none⟩=some (.int .u8 5)/\w.cell? ⟨ad,1,none⟩=some (.int .u8 5))
 (hK:∀A' cp' w',z0e w' .u8 A' 32 (λ_=>((5:Nat):Int))->Kept NoB w w'->K (a.put o.dst (.slice A' 32 cp')) w'):
 if Region.wanted o (yielded ops a.tmps)=true then Oper.wp prog o a w K Q else E:=by
 have hw:Region.wanted o (yielded ops a.tmps)=true:=(by simp[Region.wanted,hgd]);rw[if_pos hw];obtain⟨b,o9,rfl,hb,hcl⟩:=h (by decide);obtain⟨i,h1,h2,h3,h4⟩:=V.Tx.info_of V.Tx.byteInfo;have hrep:∀n j u,(List.replicate n (Value.int .u8 5))[j]? =some u->j<n/\u=.int .u8 5:=λn j u hu=>by
  rw[List.getElem?_replicate] at hu
  split at hu
  · rename_i q;cases hu;exact⟨q,rfl⟩
  · cases hu
 obtain⟨v',w',hrun,r1,r2⟩:=run_append_arg_grows (P:= prog) w 26 o.type 5 i (.int .u8 0) 1 1 underlying26 h1 h2 h3 h4 rfl (by decide) ⟨b,o9,none⟩ 30 30 (List.replicate 30 (.int .u8 5)) (by simp)
  (λj u hu=>by obtain⟨q1,rfl⟩:=hrep 30 j u hu;rw[V.cadd_at];exact hcl j q1)
  ⟨ad,0,none⟩ 2 c (List.replicate 2 (.int .u8 5)) rfl (λj u hu=>by
   obtain⟨q1,rfl⟩:=hrep 2 j u hu;rw[V.cadd_at,Nat.zero_add];have hj:j=0\/j=1:=(by omega);rcases hj with rfl|rfl
   · exact hc.1
   · exact hc.2) (by omega) (by unfold maxLen;omega) (by omega)
 unfold Oper.wp execOp;simp only[ho,resolve,invoke,builtin,Sem.run_bind,Sem.run_pure,Result.andThen_ok,List.map_toArray,List.map_cons,List.map_nil,hs,hx,hrun];have e:List.replicate 30 (Value.int .u8 5)++List.replicate 2 (.int .u8 5)=List.replicate 32 (.int .u8 5):=(by rw[List.replicate_append_replicate]);rw[e] at r1;have hk:Kept NoB w w':=(Kept.of_grown r2).mono (λj q=>by cases q);rcases r1.2 with⟨_,q⟩|⟨g',cap,cur,rfl,hg,hh,hnc,hcm,hsz,htk⟩
 · cases q
 · refine hK _ cap w' (λ_=>⟨g',0,rfl,(qW.1 hh).1,λj hj=> ?_⟩) hk
   have:=r1.cells (g:=g') rfl j (.int .u8 5) (by rw[List.getElem?_replicate,if_pos hj]);rw[V.cadd_at] at this;exact this
section
variable {w:World} {B g q r D L:Nat} {s:ByteArray} {x:St}
theorem In.setMade(h:In w B g q r s D L x){p1 p2:Nat}(t1:Tb w r p1 fx 288)(t2:Tb w r p2 (λ_=>5) 32):
 In ((w.setCell ⟨g,3,none⟩ (.pointer (some ⟨p1,0,none⟩))).setCell ⟨g,4,none⟩ (.pointer (some ⟨p2,0,none⟩))) B g q r s D L x:=by
 obtain⟨cp,v3,v4,h1,h2,h3⟩:=h.row;have hk:Kept (λj=>j=g) w ((w.setCell ⟨g,3,none⟩ (.pointer (some ⟨p1,0,none⟩))).setCell ⟨g,4,none⟩ (.pointer (some ⟨p2,0,none⟩))):=((Kept.refl (λj=>j=g) w).setCell ⟨g,3,none⟩ (.inl rfl) _).setCell ⟨g,4,none⟩ (.inl rfl) _;have hn:∀j,j=g->NoT w j:=λj e=>by rw[e];exact h.ng
 refine⟨h.gb,h.rb,h.qr,h.rd.keep hk (λe=>h.gq e.symm),⟨cp,_,_,?_,h2.kept hk (λe=>h.gr e.symm),.inr ⟨p1,p2,rfl,rfl,t1.keptN hk hn,t2.keptN hk hn⟩⟩,h.dl,h.ll⟩;have e1:(w.setCell ⟨g,3,none⟩ (.pointer (some ⟨p1,0,none⟩))).heap[g]? =some (.cells #[.pointer (some ⟨q,0,none⟩),.slice (some ⟨r,0,none⟩) x.2.length cp,.int .i64 ((L:Int) - ((x.2.length - D:Nat):Int)),.pointer (some ⟨p1,0,none⟩),v4] 179 (0,0)):=by
  rw[setCell_eq_setRow w g 3 _ _ _ _ h1,setRow_heap w g _ _ _ _ h1];rfl
 rw[setCell_eq_setRow _ g 4 _ _ _ _ e1,setRow_heap _ g _ _ _ _ e1];rfl
theorem zhq(h:In w B g q r s D L x):
 Calls prog 167 #[.pointer (some ⟨g,0,none⟩)] w (zcC w B g q r s D L fx 288 (λ_=>5) 32 x):=by
 obtain⟨cp,v3,v4,c0,c1,c2,c3,c4,cf,hy,hm⟩:=h.cells;have hkA:Kept NoB w (w.alloc (.cells #[.pointer none,.pointer none] 177)):=(Kept.refl _ _).alloc _;have hnew:(w.alloc (.cells #[.pointer none,.pointer none] 177)).heap[w.heap.size]? =some (.cells #[.pointer none,.pointer none] 177 (0,0)):=heap_alloc_new _ _;have hsz:(w.alloc (.cells #[.pointer none,.pointer none] 177)).heap.size=w.heap.size+1:=(by simp);generalize hw0:w.alloc (.cells #[.pointer none,.pointer none] 177)=w0 at hkA hnew hsz;generalize hb:w.heap.size=b at hnew hsz;have hgb:g<b:=(by have:=h.glt;omega);have hqb:q<b:=(by have:=h.rd.lt;omega);have hrb:r<b:=(by have:=h.rlt;omega);have i0:=h.same hkA;have d3:=hkA.cell c3 (λe=>e);have d4:=hkA.cell c4 (λe=>e);obtain⟨n0,n1,n2,n3⟩:=z07 hnew;obtain⟨HN,HK,HI⟩:=qh3 hnew hkA i0;rcases hm with⟨rfl,rfl⟩|⟨p1,p2,rfl,rfl,t1,t2⟩
 · have HFx:=qH (V.fixed_f w0)
   clear h hy cf c0 c1 c2 c3 c4 hkA hnew i0;unfold zcC;go_enter func167,ntmps167;go_wp2_with (go_at_call 209;(with_reducible refine HFx.o.mono ?_);rintro e w1 ⟨A1,c1,A2,c2,rfl,s1,s2,b1,u1,u2,rfl⟩;obtain⟨S1,S2,B1⟩:=qh3 s1 s2 b1;clear s1 s2 b1 u1 u2);have hw1:=B1.o.size;have hbx:(w1.alloc (.cells #[.slice A1 288 c1,.slice A2 30 30] 149)).heap[w1.heap.size]? =some (.cells #[.slice A1 288 c1,.slice A2 30 30] 149 (0,0)):=heap_alloc_new _ _;have hkb:Kept NoB w1 (w1.alloc (.cells #[.slice A1 288 c1,.slice A2 30 30] 149)):=(Kept.refl _ _).alloc _;generalize hwB:w1.alloc (.cells #[.slice A1 288 c1,.slice A2 30 30] 149)=wB at hbx hkb ⊢;have m0:=(z07 hbx).1;have m1:=(z07 hbx).2.1;have HKB:=qH hkb;have m0a:∀o:Obj,(wB.drew.alloc o).cell? ⟨w1.heap.size,0,none⟩=some (.slice A1 288 c1):=λo=>(World.cell?_of_block (a:=⟨w1.heap.size,0,none⟩) (Below.heap_alloc wB.drew _ _ (qB m0))).trans m0
   have m1a:∀o:Obj,(wB.drew.alloc o).cell? ⟨w1.heap.size,1,none⟩=some (.slice A2 30 30):=λo=>(World.cell?_of_block (a:=⟨w1.heap.size,1,none⟩) (Below.heap_alloc wB.drew _ _ (qB m1))).trans m1
   have m0c:∀o:Obj,(wB.alloc o).drew.cell? ⟨w1.heap.size,0,none⟩=some (.slice A1 288 c1):=m0a;have m1c:∀o:Obj,(wB.alloc o).drew.cell? ⟨w1.heap.size,1,none⟩=some (.slice A2 30 30):=m1a;have HS1:=qH (λ(W:World) (hb:Below w1.heap.size w1 W)=>(show z0e W .u8 A1 288 (λi=>(fx i:Int)) from S1.o.below hb));have HTs:=qH (λ(W:World) (hb:Below w1.heap.size w1 W) (A':Option Addr) (c':Nat) (h5:z0e W .u8 A' 32 (λ_=>((5:Nat):Int)))=>z2i A1 A' 288 c1 32 c' fx (λ_=>5) W (λi=>by unfold fx;split<;>(try split)<;>(try split)<;>omega) (λ_=>by omega) (HS1.o W hb) h5 (by decide+kernel) (by decide+kernel));unfold zeV at HTs;have HK0:=qH (λ(W:World) (hb:Kept NoB w1 W)=>(show Kept NoB w0 W from(Kept.of_below B1.o).trans hb (λ_ e=>e.elim)));clear hbx hkb hwB
   go_region_law (first
    |(refine z8D rfl (.tmp 15) (.tmp 16) rfl A2 (by simp[Act.eval]) (S2.o.below (kb (by first|exact(HKB.o.drew).alloc _|exact(HKB.o.alloc _).drew))) wB.heap.size 2 (by simp[Act.eval]) ⟨by simp,by simp⟩ ?_;intro A' cp' w4 s4 k4;have K4:=qH (show Kept NoB w1 w4 from by first|exact((HKB.o.drew).alloc _).trans k4 (λ_ e=>e.elim)|exact((HKB.o.alloc _).drew).trans k4 (λ_ e=>e.elim));have m0b:w4.cell? ⟨w1.heap.size,0,none⟩=some (.slice A1 288 c1):=(by first|exact k4.cell (m0a _) (λe=>e)|exact k4.cell (m0c _) (λe=>e));have S4:=qH s4;clear s4 k4)
    |(rw[if_pos (by rfl)];go_simp;(with_reducible refine(HTs.o _ (kb K4.o) _ _ S4.o).mono ?_);rintro e w6 ⟨p1,p2,rfl,hp1,hp2,b6,t6⟩;have K6:=qH (HK0.o _ (K4.o.trans (Kept.of_below b6) (λ_ e=>e.elim)));have n6:=(K6.o.block b (by omega) (λe=>e)).trans HN.o;obtain⟨cp6,v36,v46,e60,e61,e62,e63,e64,e6f,_,_⟩:=(HI.o.same K6.o).cells;have e6f3:=e6f 3;have e6f4:=e6f 4;have n60:=(z07 n6).1;have n61:=(z07 n6).2.1;have n62:=(z07 n6).2.2.1;have n63:=(z07 n6).2.2.2;obtain⟨N6,T6⟩:=qh2 n6 t6;have hs4:=K4.o.size;clear b6 n6 t6 e60 e61 e62 e6f))
   all_goals
    go_wp2_with fail;have hr4:r<w4.heap.size:=(by have:=HI.o.rlt;omega);have i7:=(HI.o.same K6.o).setMade (T6.o r hr4).1 (T6.o r hr4).2;have hng:∀j,j=g->NoT w6 j:=λj e=>by rw[e];exact(HI.o.same K6.o).ng
    have kg:Kept (λj=>j=g) w6 ((w6.setCell ⟨g,3,none⟩ (.pointer (some ⟨p1,0,none⟩))).setCell ⟨g,4,none⟩ (.pointer (some ⟨p2,0,none⟩))):=((Kept.refl (λj=>j=g) w6).setCell ⟨g,3,none⟩ (.inl rfl) _).setCell ⟨g,4,none⟩ (.inl rfl) _;have t7:=(T6.o r hr4).1.keptN kg hng;have u7:=(T6.o r hr4).2.keptN kg hng;have n7:=(kg.block b (qW.1 N6.o).1 (λe=>by omega)).trans N6.o;generalize hw7:(w6.setCell ⟨g,3,none⟩ (.pointer (some ⟨p1,0,none⟩))).setCell ⟨g,4,none⟩ (.pointer (some ⟨p2,0,none⟩))=w7 at i7 kg t7 u7 n7 ⊢;refine bodyPost_ret (v:=.agg #[.pointer (some ⟨p1,0,none⟩),.pointer (some ⟨p2,0,none⟩)]) (results_cell_row rfl _ _ b _ _ _ _ rfl (z2S n7 _ _) underlying177 rfl z2r) rfl ?_
    have k8:Kept (λj=>j=b) w7 ((w7.setCell ⟨b,0,none⟩ (.pointer (some ⟨p1,0,none⟩))).setCell ⟨b,1,none⟩ (.pointer (some ⟨p2,0,none⟩))):=((Kept.refl (λj=>j=b) w7).setCell ⟨b,0,none⟩ (.inl rfl) _).setCell ⟨b,1,none⟩ (.inl rfl) _;have k9:Kept (Ch g q r) w w7:=((HK.o.trans K6.o (λ_ e=>e.elim)).none _).trans kg (λj e=> .inl (.inl e));exact⟨p1,p2,r,rfl,k9.trans k8 (λj e=> .inr (by omega)),.inl rfl,i7.other k8 (by omega) (by omega) (by omega) ⟨_,(z07 n7).1,λz=>⟨λe=>(by cases e),λe=>(by cases e)⟩⟩,t7.two n7 (λ_=>⟨λe=>(by cases e),λe=>(by cases e)⟩) _ _,u7.two n7 (λ_=>⟨λe=>(by cases e),λe=>(by cases e)⟩) _ _⟩
 · have u1:=t1.kept h.byt hkA (λ_ e=>e.elim)
   have u2:=t2.kept h.byt hkA (λ_ e=>e.elim);obtain⟨HU1,HU2⟩:=qh2 u1 u2;clear h hy cf c0 c1 c2 c3 c4 t1 t2 u1 u2 hkA hnew i0;unfold zcC;go_enter func167,ntmps167;go_wp2_with fail;refine bodyPost_ret (v:=.agg #[.pointer (some ⟨p1,0,none⟩),.pointer (some ⟨p2,0,none⟩)]) (results_cell_row rfl _ _ b _ _ _ _ rfl (z2S HN.o _ _) underlying177 rfl z2r) rfl ?_
   have k7:Kept (λj=>j=b) w0 ((w0.setCell ⟨b,0,none⟩ (.pointer (some ⟨p1,0,none⟩))).setCell ⟨b,1,none⟩ (.pointer (some ⟨p2,0,none⟩))):=((Kept.refl (λj=>j=b) w0).setCell ⟨b,0,none⟩ (.inl rfl) _).setCell ⟨b,1,none⟩ (.inl rfl) _;exact⟨p1,p2,r,rfl,(HK.o.none _).trans k7 (λj e=> .inr (by omega)),.inl rfl,HI.o.other k7 (by omega) (by omega) (by omega) ⟨_,(z07 HN.o).1,λz=>⟨λe=>(by cases e),λe=>(by cases e)⟩⟩,HU1.o.two HN.o (λ_=>⟨λe=>(by cases e),λe=>(by cases e)⟩) _ _,HU2.o.two HN.o (λ_=>⟨λe=>(by cases e),λe=>(by cases e)⟩) _ _⟩
end
def zg1(b:Unit ⊕ Unit)(e:Ending)(_:World):Prop:=e=.returned (.bool (match b with|.inl _=>false|.inr _=>true))
def z91(b:Bool):Unit ⊕ Unit:=if b=true then Sum.inr () else Sum.inl ()
section
variable {w0 w:World} {B g q r D L:Nat} {s:ByteArray} {x:St}
theorem z77{r1 p1 p2 n m:Nat}{l d:Nat->Nat}(hk:Kept (Ch g q r) w0 w)(hr1:r1=r\/w0.heap.size<=r1)(i1:In w B g q r1 s D L x)(t1:Tb w r1 p1 l n)(t2:Tb w r1 p2 d m)(hs:s.size<=100000)(ht:TB B w)(K:Nat)(hK:8*s.size - x.1<K)(hL:L<=800000000)(hD:D<=100000000):
 Calls prog 170 #[.pointer (some ⟨g,0,none⟩),.agg #[.pointer (some ⟨p1,0,none⟩),.pointer (some ⟨p2,0,none⟩)]] w (Out w0 B g q r s D L (syms K l n d m s D L x) z1G):=by
 refine(za2 i1 hs ht t1 t2 K hK hL hD).mono λe w' o'=> ?_
 cases hl:syms K l n d m s D L x with
 |error c=>rw[hl] at o';exact⟨o'.1,Kept.ch_trans hk o'.2 hr1⟩
 |ok p=>rw[hl] at o';exact⟨o'.1,Res.trans (y:=x) hk hr1 o'.2⟩
theorem Res.two{l d:Nat->Nat}{n m:Nat}{y:St}{e:Ending}{w':World}{r1:Nat}(kk:Kept (Ch g q r) w0 w)(hr1:r1=r\/w0.heap.size<=r1)(h:zcC w B g q r1 s D L l n d m y e w'):zcC w0 B g q r s D L l n d m y e w':=by
 obtain⟨p1,p2,r2,e1,k2,hr2,i2,t1,t2⟩:=h;have:=kk.size;refine⟨p1,p2,r2,e1,Kept.ch_trans kk k2 hr1,?_,i2,t1,t2⟩;rcases hr2 with e|e
 · rw[e];exact hr1
 · exact .inr (by omega)
theorem zhL(h:In w B g q r s D L x)(hs:s.size<=100000)(ht:TB B w)(K:Nat)(hK:8*s.size - x.1<K)(hL:L<=800000000)(hD:D<=100000000):
 Calls prog 122 #[.pointer (some ⟨g,0,none⟩)] w (Out w B g q r s D L (blk K () s D L x) zg1):=by
 generalize hR:blk K () s D L x=R;unfold blk at hR;have HTb:=qH (λ(W:World) (k:Kept (Ch g q r) w W)=>(show TB B W from ht.go (h.bl k)));have HxK:=qH (λ(y:Nat) (hy:x.1<=y)=>(show 8*s.size - y<K from by omega));have HS0:=qH h.start;clear h ht;cases h1:bits 1 s D L x with
 |error c=>
  rw[z03 h1] at hR;subst hR
  have HB1:=qH (λ(W:World) (o:Res w B g q r s D L x W)=>(show Calls prog 166 #[.pointer (some ⟨g,0,none⟩),.int .i64 1] W λe w'=>e=.panicked (flt c)/\Kept (Ch g q r) w w' from by
   have:=o.lift (λr i=>zfS i hs);rw[h1] at this;exact this))
  clear h1;go_enter func122,ntmps122;go_wp2_with (go_at_call 166;(with_reducible refine(HB1.o _ HS0.o).mono ?_);rintro e w1 ⟨rfl,k1⟩;have K1:=qH k1;clear k1);exact⟨rfl,rfl,K1.o⟩
 |ok pp=>
  obtain⟨f,x1⟩:=pp;rw[z00 h1] at hR;obtain⟨hf,hx1⟩:=z0l h1 2 (by decide);have hm1:x.1<=x1.1:=by rw[hx1];simp only;omega
  have HB1:=qH (λ(W:World) (o:Res w B g q r s D L x W)=>(show Calls prog 166 #[.pointer (some ⟨g,0,none⟩),.int .i64 1] W λe w'=>e=.returned (.int .i64 f)/\Res w B g q r s D L x1 w' from by
   have:=o.lift (λr i=>zfS i hs);rw[h1] at this;exact this))
  clear h1 hx1;obtain⟨bl,hbl⟩:∃bl,decide (f=1)=bl:=⟨_,rfl⟩
  have df1:((f:Int)==1)=bl:=(by rw[<-hbl,Bool.eq_iff_iff,beq_iff_eq,decide_eq_true_eq];omega);have df2:(f==1)=bl:=(by rw[<-hbl,Bool.eq_iff_iff,beq_iff_eq,decide_eq_true_eq]);have hfin:∀ (u:Unit) (s:ByteArray) (D L:Nat) (y:St),(pur (if f=1 then Sum.inr () else Sum.inl ()):Rm (Unit ⊕ Unit)) s D L y=.ok (z91 bl,y):=λu s D L y=>by
   subst hbl;unfold z91;by_cases q:f=1
   · rw[if_pos q,if_pos (q9T q)];rfl
   · rw[if_neg q,if_neg (by rw[qF q];decide)];rfl
  have HFin:=qH hfin;have HV:=qH (show ∀w',zg1 (z91 bl) (.returned (.bool bl)) w' from λw'=>by cases bl<;>rfl);clear hfin hbl;cases h2:bits 2 s D L x1 with
  |error c=>
   rw[z03 h2] at hR;subst hR
   have HB2:=qH (λ(W:World) (o:Res w B g q r s D L x1 W)=>(show Calls prog 166 #[.pointer (some ⟨g,0,none⟩),.int .i64 2] W λe w'=>e=.panicked (flt c)/\Kept (Ch g q r) w w' from by
    have:=o.lift (λr i=>zfR i hs);rw[h2] at this;exact this))
   clear h2;go_enter func122,ntmps122
   go_wp2_with (first
    |(go_at_call 166;(with_reducible refine(HB1.o _ HS0.o).mono ?_);rintro e w1 ⟨rfl,o1⟩;have O1:=qH o1;clear o1)
    |(go_at_call 166;(with_reducible refine(HB2.o _ O1.o).mono ?_);rintro e w2 ⟨rfl,k2⟩;have K2:=qH k2;clear k2))
   exact⟨rfl,rfl,K2.o⟩
  |ok pp=>
   obtain⟨k,x2⟩:=pp;rw[z00 h2] at hR;obtain⟨hk,hx2⟩:=z0l h2 4 (by decide);have hm2:x1.1<=x2.1:=(by rw[hx2];simp only;omega);have hK2:8*s.size - x2.1<K:=HxK.o _ (by omega)
   have hB2:=(λ(W:World) (o:Res w B g q r s D L x1 W)=>(show Calls prog 166 #[.pointer (some ⟨g,0,none⟩),.int .i64 2] W λe w'=>e=.returned (.int .i64 k)/\Res w B g q r s D L x2 w' from by
    have:=o.lift (λr i=>zfR i hs);rw[h2] at this;exact this))
   clear h2 hx2;have hc:k=0\/k=1\/k=2\/k=3:=(by omega);rcases hc with rfl|rfl|rfl|rfl
   · have HB2:=qH (λ(W:World) (o:Res w B g q r s D L x1 W)=>(show Calls prog 166 #[.pointer (some ⟨g,0,none⟩),.int .i64 2] W λe w'=>e=.returned (.int .i64 0)/\Res w B g q r s D L x2 w' from hB2 W o))
     clear hB2;rw[show body K 0=stor from rfl] at hR;cases h3:stor s D L x2 with
     |error c=>
      rw[z03 h3] at hR;subst hR
      have HC:=qH (λ(W:World) (o:Res w B g q r s D L x2 W)=>(show Calls prog 168 #[.pointer (some ⟨g,0,none⟩)] W λe w'=>e=.panicked (flt c)/\Kept (Ch g q r) w w' from by
       have:=o.lift (λr i=>z7c i hs hL hD);rw[h3] at this;exact this))
      clear h3;go_enter func122,ntmps122
      go_wp2_with (first
       |(go_at_call 166;(with_reducible refine(HB1.o _ HS0.o).mono ?_);rintro e w1 ⟨rfl,o1⟩;have O1:=qH o1;clear o1)
       |(go_at_call 166;(with_reducible refine(HB2.o _ O1.o).mono ?_);rintro e w2 ⟨rfl,o2⟩;have O2:=qH o2;clear o2)
       |(go_at_call 168;(with_reducible refine(HC.o _ O2.o).mono ?_);rintro e w3 ⟨rfl,k3⟩;have K3:=qH k3;clear k3))
      exact⟨rfl,rfl,K3.o⟩
     |ok pp=>
      obtain⟨u,x3⟩:=pp;rw[z00 h3,HFin.o ()] at hR;subst hR
      have HC:=qH (λ(W:World) (o:Res w B g q r s D L x2 W)=>(show Calls prog 168 #[.pointer (some ⟨g,0,none⟩)] W λe w'=>e=.returned (.tuple #[])/\Res w B g q r s D L x3 w' from by
       have:=o.lift (λr i=>z7c i hs hL hD);rw[h3] at this;exact this))
      clear h3;go_enter func122,ntmps122
      go_wp2_with (first
       |(go_at_call 166;(with_reducible refine(HB1.o _ HS0.o).mono ?_);rintro e w1 ⟨rfl,o1⟩;have O1:=qH o1;clear o1)
       |(go_at_call 166;(with_reducible refine(HB2.o _ O1.o).mono ?_);rintro e w2 ⟨rfl,o2⟩;have O2:=qH o2;clear o2)
       |(go_at_call 168;(with_reducible refine(HC.o _ O2.o).mono ?_);rintro e w3 ⟨rfl,o3⟩;have O3:=qH o3;clear o3))
      go_ret;exact⟨HV.o _,O3.o⟩
   · have HB2:=qH (λ(W:World) (o:Res w B g q r s D L x1 W)=>(show Calls prog 166 #[.pointer (some ⟨g,0,none⟩),.int .i64 2] W λe w'=>e=.returned (.int .i64 1)/\Res w B g q r s D L x2 w' from hB2 W o))
     clear hB2;rw[show body K 1=syms K fx 288 (λ_=>5) 32 from rfl] at hR
     have HFx:=qH (λ(W:World) (o:Res w B g q r s D L x2 W)=>(show Calls prog 167 #[.pointer (some ⟨g,0,none⟩)] W (zcC w B g q r s D L fx 288 (λ_=>5) 32 x2) from by
      obtain⟨kk,r1,hr1,i1⟩:=o;exact(zhq i1).mono λe w' o'=>Res.two kk hr1 o'))
     unfold zcC at HFx;cases h3:syms K fx 288 (λ_=>5) 32 s D L x2 with
     |error c=>
      rw[z03 h3] at hR;subst hR
      have HC:=qH (λ(W:World) (r1 p1 p2:Nat) (hk:Kept (Ch g q r) w W) (hr1:r1=r\/w.heap.size<=r1) (i1:In W B g q r1 s D L x2) (t1:Tb W r1 p1 fx 288) (t2:Tb W r1 p2 (λ_=>5) 32)=>(show Calls prog 170 #[.pointer (some ⟨g,0,none⟩),.agg #[.pointer (some ⟨p1,0,none⟩),.pointer (some ⟨p2,0,none⟩)]] W λe w'=>e=.panicked (flt c)/\Kept (Ch g q r) w w' from by
       have:=z77 hk hr1 i1 t1 t2 hs (HTb.o _ hk) K hK2 hL hD;rw[h3] at this;exact this))
      clear h3;go_enter func122,ntmps122
      go_wp2_with (first
       |(go_at_call 166;(with_reducible refine(HB1.o _ HS0.o).mono ?_);rintro e w1 ⟨rfl,o1⟩;have O1:=qH o1;clear o1)
       |(go_at_call 166;(with_reducible refine(HB2.o _ O1.o).mono ?_);rintro e w2 ⟨rfl,o2⟩;have O2:=qH o2;clear o2)
       |(go_at_call 167;(with_reducible refine(HFx.o _ O2.o).mono ?_);rintro e w3 ⟨p1,p2,r3,rfl,k3,g3,i3,t3,u3⟩;obtain⟨K3,G3,I3,T3,U3⟩:=qh5 k3 g3 i3 t3 u3;clear k3 g3 i3 t3 u3)
       |(go_at_call 170;(with_reducible refine(HC.o _ _ _ _ K3.o G3.o I3.o T3.o U3.o).mono ?_);rintro e w4 ⟨rfl,k4⟩;have K4:=qH k4;clear k4))
      exact⟨rfl,rfl,K4.o⟩
     |ok pp=>
      obtain⟨u,x3⟩:=pp;rw[z00 h3,HFin.o ()] at hR;subst hR
      have HC:=qH (λ(W:World) (r1 p1 p2:Nat) (hk:Kept (Ch g q r) w W) (hr1:r1=r\/w.heap.size<=r1) (i1:In W B g q r1 s D L x2) (t1:Tb W r1 p1 fx 288) (t2:Tb W r1 p2 (λ_=>5) 32)=>(show Calls prog 170 #[.pointer (some ⟨g,0,none⟩),.agg #[.pointer (some ⟨p1,0,none⟩),.pointer (some ⟨p2,0,none⟩)]] W λe w'=>e=.returned (.tuple #[])/\Res w B g q r s D L x3 w' from by
       have:=z77 hk hr1 i1 t1 t2 hs (HTb.o _ hk) K hK2 hL hD;rw[h3] at this;exact this))
      clear h3;go_enter func122,ntmps122
      go_wp2_with (first
       |(go_at_call 166;(with_reducible refine(HB1.o _ HS0.o).mono ?_);rintro e w1 ⟨rfl,o1⟩;have O1:=qH o1;clear o1)
       |(go_at_call 166;(with_reducible refine(HB2.o _ O1.o).mono ?_);rintro e w2 ⟨rfl,o2⟩;have O2:=qH o2;clear o2)
       |(go_at_call 167;(with_reducible refine(HFx.o _ O2.o).mono ?_);rintro e w3 ⟨p1,p2,r3,rfl,k3,g3,i3,t3,u3⟩;obtain⟨K3,G3,I3,T3,U3⟩:=qh5 k3 g3 i3 t3 u3;clear k3 g3 i3 t3 u3)
       |(go_at_call 170;(with_reducible refine(HC.o _ _ _ _ K3.o G3.o I3.o T3.o U3.o).mono ?_);rintro e w4 ⟨rfl,o4⟩;have O4:=qH o4;clear o4))
      go_ret;exact⟨HV.o _,O4.o⟩
   · have HB2:=qH (λ(W:World) (o:Res w B g q r s D L x1 W)=>(show Calls prog 166 #[.pointer (some ⟨g,0,none⟩),.int .i64 2] W λe w'=>e=.returned (.int .i64 2)/\Res w B g q r s D L x2 w' from hB2 W o))
     clear hB2;rw[show body K 2=bnd (dyn K) λt=>syms K (lit t.1) t.2.1 (dis t.1 t.2.1) t.2.2 from rfl] at hR
     have hDy:=(λ(W:World) (o:Res w B g q r s D L x2 W)=>(show Calls prog 169 #[.pointer (some ⟨g,0,none⟩)] W λe w'=>
      match dyn K s D L x2 with
      |.ok p=>zcC w B g q r s D L (lit p.1.1) p.1.2.1 (dis p.1.1 p.1.2.1) p.1.2.2 p.2 e w'
      |.error c=>e=.panicked (flt c)/\Kept (Ch g q r) w w' from by
       have hTb:=HTb.o _ o.kept;obtain⟨kk,r1,hr1,i1⟩:=o;refine(zbK i1 hs hTb K hK2).mono λe w' o'=> ?_
       cases hd:dyn K s D L x2 with
       |error c=>rw[hd] at o';exact⟨o'.1,Kept.ch_trans kk o'.2 hr1⟩
       |ok p=>rw[hd] at o';exact Res.two kk hr1 o'))
     cases h4:dyn K s D L x2 with
     |error c=>
      rw[z03 (z03 h4)] at hR;subst hR;simp only[h4] at hDy;have HDy:=qH hDy;clear h4 hDy;go_enter func122,ntmps122
      go_wp2_with (first
       |(go_at_call 166;(with_reducible refine(HB1.o _ HS0.o).mono ?_);rintro e w1 ⟨rfl,o1⟩;have O1:=qH o1;clear o1)
       |(go_at_call 166;(with_reducible refine(HB2.o _ O1.o).mono ?_);rintro e w2 ⟨rfl,o2⟩;have O2:=qH o2;clear o2)
       |(go_at_call 169;(with_reducible refine(HDy.o _ O2.o).mono ?_);rintro e w3 ⟨rfl,k3⟩;have K3:=qH k3;clear k3))
      exact⟨rfl,rfl,K3.o⟩
     |ok pp=>
      obtain⟨⟨all,a,b⟩,x3⟩:=pp;have hm3:=((z01.dyn K).mono h4).1;simp only[h4] at hDy;have HDy:=qH hDy;unfold zcC at HDy;have hK3:8*s.size - x3.1<K:=HxK.o _ (by omega);have hbb:bnd (dyn K) (λt=>syms K (lit t.1) t.2.1 (dis t.1 t.2.1) t.2.2) s D L x2=syms K (lit all) a (dis all a) b s D L x3:=z00 h4;clear h4 hDy;cases h3:syms K (lit all) a (dis all a) b s D L x3 with
      |error c=>
       rw[z03 (hbb.trans h3)] at hR;subst hR
       have HC:=qH (λ(W:World) (r1 p1 p2:Nat) (hk:Kept (Ch g q r) w W) (hr1:r1=r\/w.heap.size<=r1) (i1:In W B g q r1 s D L x3) (t1:Tb W r1 p1 (lit all) a) (t2:Tb W r1 p2 (dis all a) b)=>(show Calls prog 170 #[.pointer (some ⟨g,0,none⟩),.agg #[.pointer (some ⟨p1,0,none⟩),.pointer (some ⟨p2,0,none⟩)]] W λe w'=>e=.panicked (flt c)/\Kept (Ch g q r) w w' from by
        have:=z77 hk hr1 i1 t1 t2 hs (HTb.o _ hk) K hK3 hL hD;rw[h3] at this;exact this))
       clear h3 hbb;go_enter func122,ntmps122
       go_wp2_with (first
        |(go_at_call 166;(with_reducible refine(HB1.o _ HS0.o).mono ?_);rintro e w1 ⟨rfl,o1⟩;have O1:=qH o1;clear o1)
        |(go_at_call 166;(with_reducible refine(HB2.o _ O1.o).mono ?_);rintro e w2 ⟨rfl,o2⟩;have O2:=qH o2;clear o2)
        |(go_at_call 169;(with_reducible refine(HDy.o _ O2.o).mono ?_);rintro e w3 ⟨p1,p2,r3,rfl,k3,g3,i3,t3,u3⟩;obtain⟨K3,G3,I3,T3,U3⟩:=qh5 k3 g3 i3 t3 u3;clear k3 g3 i3 t3 u3)
        |(go_at_call 170;(with_reducible refine(HC.o _ _ _ _ K3.o G3.o I3.o T3.o U3.o).mono ?_);rintro e w4 ⟨rfl,k4⟩;have K4:=qH k4;clear k4))
       exact⟨rfl,rfl,K4.o⟩
      |ok pp=>
       obtain⟨u,x4⟩:=pp;rw[z00 (hbb.trans h3),HFin.o ()] at hR;subst hR
       have HC:=qH (λ(W:World) (r1 p1 p2:Nat) (hk:Kept (Ch g q r) w W) (hr1:r1=r\/w.heap.size<=r1) (i1:In W B g q r1 s D L x3) (t1:Tb W r1 p1 (lit all) a) (t2:Tb W r1 p2 (dis all a) b)=>(show Calls prog 170 #[.pointer (some ⟨g,0,none⟩),.agg #[.pointer (some ⟨p1,0,none⟩),.pointer (some ⟨p2,0,none⟩)]] W λe w'=>e=.returned (.tuple #[])/\Res w B g q r s D L x4 w' from by
        have:=z77 hk hr1 i1 t1 t2 hs (HTb.o _ hk) K hK3 hL hD;rw[h3] at this;exact this))
       clear h3 hbb;go_enter func122,ntmps122
       go_wp2_with (first
        |(go_at_call 166;(with_reducible refine(HB1.o _ HS0.o).mono ?_);rintro e w1 ⟨rfl,o1⟩;have O1:=qH o1;clear o1)
        |(go_at_call 166;(with_reducible refine(HB2.o _ O1.o).mono ?_);rintro e w2 ⟨rfl,o2⟩;have O2:=qH o2;clear o2)
        |(go_at_call 169;(with_reducible refine(HDy.o _ O2.o).mono ?_);rintro e w3 ⟨p1,p2,r3,rfl,k3,g3,i3,t3,u3⟩;obtain⟨K3,G3,I3,T3,U3⟩:=qh5 k3 g3 i3 t3 u3;clear k3 g3 i3 t3 u3)
        |(go_at_call 170;(with_reducible refine(HC.o _ _ _ _ K3.o G3.o I3.o T3.o U3.o).mono ?_);rintro e w4 ⟨rfl,o4⟩;have O4:=qH o4;clear o4))
       go_ret;exact⟨HV.o _,O4.o⟩
   · have HB2:=qH (λ(W:World) (o:Res w B g q r s D L x1 W)=>(show Calls prog 166 #[.pointer (some ⟨g,0,none⟩),.int .i64 2] W λe w'=>e=.returned (.int .i64 3)/\Res w B g q r s D L x2 w' from hB2 W o))
     clear hB2;rw[z03 (e:=160) (show body K 3 s D L x2=.error 160 from rfl)] at hR;subst hR;go_enter func122,ntmps122
     go_wp2_with (first
      |(go_at_call 166;(with_reducible refine(HB1.o _ HS0.o).mono ?_);rintro e w1 ⟨rfl,o1⟩;have O1:=qH o1;clear o1)
      |(go_at_call 166;(with_reducible refine(HB2.o _ O1.o).mono ?_);rintro e w2 ⟨rfl,o2⟩;have O2:=qH o2;clear o2)
      |(go_at_call 171;(with_reducible refine(zej _).mono ?_);rintro e w3 ⟨rfl,k3⟩;have K3:=qH k3;clear k3))
     exact⟨rfl,rfl,O2.o.end_ K3.o⟩
end
theorem zbJ(c:Nat)(w:World):(binOp .eql 20 (.iface 171 (.agg #[.int .i64 c])) .nilIface).run prog w=.ok (.bool false) w:=by kernel_rfl
theorem ze5(c:Nat)(w:World):(Instr.typeAssert (.iface 171 (.agg #[.int .i64 c])) 20 171 true).run prog w=.ok (.tuple #[.agg #[.int .i64 c],.bool true]) w:=by kernel_rfl
theorem catch_idle(E:Nat)(w:World):
 CallsD prog 120 #[.pointer (some ⟨E,0,none⟩)] .returning w λe u' w'=>e=.returned (.tuple #[])/\u'=.returning/\w'=w:=by
 refine callsD_of_wpS func120 rfl λc₀ cs hu=> ?_
 apply wpS_seq
 apply wpS_region
 simp[wpOpsS,go_sem,recoverD,hu,ntmps120,Exit.thenS];refine wpS_of_wp ?_
 go_wp2;cases c₀;simp_all [bodyPostS,results,results120]
theorem catch_panic(c E:Nat)(y:Value)(older:List PanicEntry)(w:World)(hE:w.cell? ⟨E,0,none⟩=some y)(fE:w.frozen? ⟨E,0,none⟩=false):
 CallsD prog 120 #[.pointer (some ⟨E,0,none⟩)] (.panicking ({v:=.iface 171 (.agg #[.int .i64 c]),recovered:=false}::older)) w λe u' w'=>
  e=.returned (.tuple #[])/\u'=.panicking ({v:=.iface 171 (.agg #[.int .i64 c]),recovered:=true}::older)/\w'=(w.alloc (.cells #[.int .i64 c] 171)).setCell ⟨E,0,none⟩ (.int .i64 c):=by
 have hE1:=qB hE;have bw:Below w.heap.size w (w.alloc (.cells #[.int .i64 c] 171)):=qL;have hN:=heap_alloc_new w (.cells #[.int .i64 c] 171);generalize hw1:w.alloc (.cells #[.int .i64 c] 171)=w1 at bw hN;have e1:w1.cell? ⟨E,0,none⟩=some y:=(bw.cell (p:=⟨E,0,none⟩) hE1).trans hE;have e2:w1.frozen? ⟨E,0,none⟩=false:=(bw.frozen (p:=⟨E,0,none⟩) hE1).trans fE;have e3:w1.cell? ⟨w.heap.size,0,none⟩=some (.int .i64 c):=(by simp[World.cell?,hN]);refine callsD_of_wpS func120 rfl λc₀ cs hu=> ?_
 apply wpS_seq
 apply wpS_region
 simp[wpOpsS,go_sem,recoverD,hu,ntmps120,Exit.thenS];refine wpS_of_wp ?_
 rw[show(#[Value.pointer (some {block:=E,off:=0})]++(Array.replicate 11 undef).setIfInBounds 3 (Value.iface 171 (Value.agg #[Value.int .i64 c])):Array Value)= #[Value.pointer (some {block:=E,off:=0}),undef,undef,undef,.iface 171 (.agg #[.int .i64 c]),undef,undef,undef,undef,undef,undef,undef] from rfl];have n1:=zbJ c;have n2:=ze5 c;go_wp2_with fail;simp[bodyPostS,results,results120]
section
variable {s:ByteArray} {D L K:Nat} {x y:St} {b:Unit ⊕ Unit}
theorem z8a(h:blk K () s D L x=.ok (b,y))(hx:x.1<=8*s.size):x.1<y.1/\y.1<=8*s.size:=by
 have hin:=(z01.blk K ()).inn h hx;unfold blk at h;obtain⟨f,x1,h1,h2⟩:=z0a h;obtain⟨k,x2,h3,h4⟩:=z0a h2;obtain⟨u,x3,h5,h6⟩:=z0a h4;have m1:=(z0l h1 2 (by decide)).2;have m2:=((z01.bits 2).mono h3).1;have m3:=((z01.body K k).mono h5).1;cases h6;rw[m1] at m2;simp only at m2;exact⟨by omega,hin⟩
end
def zhS(r:Except Nat (Unit×St))(D:Nat):Ending:=.returned (.tuple #[.string ⟨(ans r D).1.toArray⟩,.int .i64 (ans r D).2.1,.int .i64 (ans r D).2.2])
def stp(v:Value):Nat:=match v with
 |.bool false=>1
 |_=>0
def Nrm(Q:Exit->Act->World->Prop):Exit->Act->World->Prop
 |.normal,a,w=>Q .normal a w
 |_,_,_=>False
theorem Nrm.to{Q:Exit->Act->World->Prop}:∀e a w,Nrm Q e a w->Q e a w:=λe a w h=>by
 cases e<;>first|exact h|exact h.elim
theorem Nrm.back{Q:Exit->Act->World->Prop}{a:Act}{w:World}(h:Q .normal a w):Nrm Q .normal a w:=h
theorem zeX{P:Program}{c:Code}{Q:Exit->Act->World->Prop}{a:Act}{w:World}(h:c.wp P (Nrm Q) a w):c.wp P Q a w:=Code.wp_mono Nrm.to h
theorem read_any(d s:ByteArray)(L K:Nat)(w:World)(hT:V.Tabs w)(hd:d.size<=100000)(hs:s.size<=100000)(hL:L<=800000000)(hK:8*s.size<K):
 Calls prog 84 #[.string d,.string s,.int .i64 L] w λe w'=>e=zhS (inf K s d.size L (0,d.data.toList)) d.size/\Below w.heap.size w w':=by
 have hdl:d.data.toList.length=d.size:=Array.length_toList;generalize hF:inf K s d.size L (0,d.data.toList)=F;unfold inf at hF;have bw1:Below w.heap.size w (w.alloc (.cells #[.int .i64 0] 27)):=(Below.refl _ w).alloc qR _;have hE1:(w.alloc (.cells #[.int .i64 0] 27)).heap[w.heap.size]? =some (.cells #[.int .i64 0] 27 (0,0)):=heap_alloc_new _ _;have hsz:(w.alloc (.cells #[.int .i64 0] 27)).heap.size=w.heap.size+1:=(by simp);generalize hw1:w.alloc (.cells #[.int .i64 0] 27)=w1 at bw1 hE1 hsz;obtain⟨E,hEe⟩:∃E,w.heap.size=E:=⟨_,rfl⟩
 rw[hEe] at bw1 hE1 hsz;have hNew:=zda (B:=E) s w1 (by omega);rw[hsz] at hNew;have HNew:=qH hNew;have HT:=qH (λ(W:World) (hb:Below E w W)=>(show V.Tabs W from hT.keep (by rw[hEe];exact hb)));obtain⟨HB1,HE1,HF⟩:=qh3 bw1 hE1 hF;have HBy:=qH (λ(W:World)=>zfa W d (by omega));clear bw1 hE1 hF hNew hT
 go_enter_defers func84,ntmps84
 go_wp2_with (go_at_call 121;(with_reducible refine HNew.o.mono ?_);rintro e w2 ⟨rfl,k2,r2,z2⟩;obtain⟨cp,w3,hc3,y3,b3,s3⟩:=HBy.o w2;obtain⟨K2,R2,Y3,B3⟩:=qh4 k2 r2 y3 b3;clear k2 r2 y3 b3);generalize hr:w2.heap.size=r at Y3 s3 B3 ⊢;have hnew:(w3.alloc (.cells #[.pointer (some ⟨E+1,0,none⟩),.slice (some ⟨r,0,none⟩) d.size cp,.int .i64 (L:Int),.pointer none,.pointer none] 179)).heap[r+1]? =some (.cells #[.pointer (some ⟨E+1,0,none⟩),.slice (some ⟨r,0,none⟩) d.size cp,.int .i64 (L:Int),.pointer none,.pointer none] 179 (0,0)):=(by rw[<-s3];exact heap_alloc_new _ _);have hkA:Kept NoB w3 (w3.alloc (.cells #[.pointer (some ⟨E+1,0,none⟩),.slice (some ⟨r,0,none⟩) d.size cp,.int .i64 (L:Int),.pointer none,.pointer none] 179)):=(Kept.refl _ _).alloc _;generalize hw4:w3.alloc (.cells #[.pointer (some ⟨E+1,0,none⟩),.slice (some ⟨r,0,none⟩) d.size cp,.int .i64 (L:Int),.pointer none,.pointer none] 179)=w4 at hnew hkA ⊢;have hk23:Kept NoB w2 w3:=Kept.of_below (by rw[hr];exact B3.o);have hk14:Kept NoB w1 w4:=(K2.o.trans hk23 (λ_ e=>e.elim)).trans hkA (λ_ e=>e.elim);have hE4:w4.heap[E]? =some (.cells #[.int .i64 0] 27 (0,0)):=(hk14.block E (by omega) (λe=>e)).trans HE1.o;have hb4:Below E w w4:=HB1.o.trans ((kb hk14).mono (by omega));have hI4:In w4 E (r+1) (E+1) r s d.size L (0,d.data.toList):=by
  refine⟨by omega,by omega,by omega,(R2.o.keep hk23 (λe=>e)).keep hkA (λe=>e),⟨cp,.pointer none,.pointer none,?_,Y3.o.kept hkA (λe=>e),.inl ⟨rfl,rfl⟩⟩,by simp only;omega,by simp only;omega⟩;simp only[hdl,Nat.sub_self];rw[show((L:Int) - ((0:Nat):Int))=(L:Int) by omega];exact hnew
 have hTB:TB E w4:=λW hb=>HT.o W (hb4.trans hb)
 have HI4:=qH hI4;have HTB:=qH (λ(W:World) (hk:Kept (Ch (r+1) (E+1) r) w4 W)=>(show TB E W from hTB.go (hI4.bl hk)))
 have HLow:=qH (λ(W:World) (hk:Kept (Ch (r+1) (E+1) r) w4 W)=>(show Below E w W/\W.heap[E]? =some (.cells #[.int .i64 0] 27 (0,0)) from
  ⟨hb4.trans (hI4.bl hk),(hk.block E (by have:=hI4.glt;omega) (λe=>by rcases e with e|e|e<;>omega)).trans hE4⟩))
 clear hnew hkA hw4 hk23 hk14 hE4 hb4 hI4 hTB K2 R2 Y3 B3 HE1 HB1 HNew hc3 HBy HT
 go_loopw [10] (λv wr=>(v=.bool false/\∃k x',Res w4 E (r+1) (E+1) r s d.size L x' wr/\8*s.size - x'.1<k/\loopR (blk K) k () s d.size L x'=F)\/(v=.bool true/\∃x',Res w4 E (r+1) (E+1) r s d.size L x' wr/\F=.ok ((),x'))) (λv wr=>(8*s.size - plc (E+1) wr)+stp v)
 case atStart=>exact .inl ⟨rfl,K,_,HI4.o.start,by simp only;omega,HF.o⟩
 case round=>
  clear HF HI4;rcases hrel with⟨rfl,k,x',hS,hk,hFk⟩|⟨rfl,x',hS,rfl⟩
  · obtain⟨k,rfl⟩:∃j,k=j+1:=⟨k - 1,by omega⟩
    obtain⟨hxl,hpl⟩:x'.1<=8*s.size/\plc (E+1) wr=x'.1:=by obtain⟨_,r1,_,i1⟩:=hS;exact⟨i1.rd.le,i1.plc⟩
    have hTb:=HTB.o wr hS.kept;have HB:=hS.lift (λr1 i1=>zhL i1 hs hTb K (by omega) hL (by omega));clear hS hTb;cases hb:blk K () s d.size L x' with
    |error c=>
     have hFc:F=.error c:=(by rw[<-hFk];exact z0f hb);subst hFc;rw[hb] at HB;have HB:=qH (show Calls prog 122 #[.pointer (some ⟨r+1,0,none⟩)] wr λe w'=>e=.panicked (flt c)/\Kept (Ch (r+1) (E+1) r) w4 w' from HB);clear hb hFk hk;go_wp2_with (go_at_call 122;(with_reducible refine HB.o.mono ?_);rintro e w5 ⟨rfl,k5⟩;have K5:=qH k5;clear k5);obtain⟨l1,l2⟩:=HLow.o _ K5.o;have q1:w5.cell? ⟨E,0,none⟩=some (.int .i64 0):=(by simp[World.cell?,l2]);have q2:w5.frozen? ⟨E,0,none⟩=false:=(by simp[World.frozen?,l2]);refine leaves_cons (f:= 120) (args:= #[.pointer (some ⟨E,0,none⟩)]) (by simp) (by simp[go_sem]) ?_
     refine(catch_panic c E (.int .i64 0) [] w5 q1 q2).mono ?_
     rintro e u' w'' ⟨rfl,rfl,rfl⟩;have hE5:E<w5.heap.size:=(qW.1 l2).1;have e5:(w5.alloc (.cells #[.int .i64 c] 171)).heap[E]? =some (.cells #[.int .i64 0] 27 (0,0)):=(Below.heap_alloc _ _ _ hE5).trans l2;have q3:((w5.alloc (.cells #[.int .i64 c] 171)).setCell ⟨E,0,none⟩ (.int .i64 c)).cell? ⟨E,0,none⟩=some (.int .i64 c):=World.cell?_setCell_same' _ _ _ (by simp[World.cell?,e5]);have hbb:Below w.heap.size w ((w5.alloc (.cells #[.int .i64 c] 171)).setCell ⟨E,0,none⟩ (.int .i64 c)):=(by rw[hEe];exact(l1.alloc (by omega) _).setCell (p:=⟨E,0,none⟩) qR _);simp[Leaves,settle,results,results84,go_sem,q3];exact⟨rfl,hbb⟩
    |ok p=>
     obtain⟨u,x2⟩:=p;rw[hb] at HB;obtain⟨m1,m2⟩:=z8a hb hxl;have HB:=qH (show Calls prog 122 #[.pointer (some ⟨r+1,0,none⟩)] wr λe w'=>zg1 u e w'/\Res w4 E (r+1) (E+1) r s d.size L x2 w' from HB);unfold zg1 at HB;cases u with
     |inl u=>
      have HG:=qH ((z1d (k:=k) hb).symm.trans hFk);clear hb hFk;have HB':=qH (show Calls prog 122 #[.pointer (some ⟨r+1,0,none⟩)] wr λe w'=>e=.returned (.bool false)/\Res w4 E (r+1) (E+1) r s d.size L x2 w' from HB.o);clear HB;go_wp2_with (go_at_call 122;(with_reducible refine HB'.o.mono ?_);rintro e w5 ⟨rfl,o5⟩;have O5:=qH o5;clear o5);go_roundw
      case rel=>exact .inl ⟨rfl,k,x2,O5.o,by omega,HG.o⟩
      case measure=>
       have hp:plc (E+1) w5=x2.1:=(by obtain⟨_,r1,_,i1⟩:=O5.o;exact i1.plc);rw[hp,hpl];simp only[stp];omega
     |inr u=>
      have HG:=qH ((z0E (k:=k) hb).symm.trans hFk);clear hb hFk;have HB':=qH (show Calls prog 122 #[.pointer (some ⟨r+1,0,none⟩)] wr λe w'=>e=.returned (.bool true)/\Res w4 E (r+1) (E+1) r s d.size L x2 w' from HB.o);clear HB;go_wp2_with (go_at_call 122;(with_reducible refine HB'.o.mono ?_);rintro e w5 ⟨rfl,o5⟩;have O5:=qH o5;clear o5);go_roundw
      case rel=>exact .inr ⟨rfl,x2,O5.o,HG.o.symm⟩
      case measure=>
       have hp:plc (E+1) w5=x2.1:=(by obtain⟨_,r1,_,i1⟩:=O5.o;exact i1.plc);rw[hp,hpl];simp only[stp];omega
  · have HA:=qH (show Calls prog 123 #[.pointer (some ⟨E+1,0,none⟩)] wr λe w'=>e=.returned (.tuple #[])/\Res w4 E (r+1) (E+1) r s d.size L (8*((x'.1+7) /8),x'.2) w' from by
     refine(hS.lift (α:=Unit) (res:=.ok ((),(8*((x'.1+7) /8),x'.2))) (V:=z1G) (λr1 i1=>(z30 i1.rd (by have:=i1.rd.le;omega)).mono λe w' (o:Got wr E (E+1) s (.tuple #[]) (z5M x'.1) e w')=>⟨o.1,kq o.2.2,r1,.inl rfl,i1.read o.2.2 o.2.1⟩)).mono λe w' o=>⟨o.1,o.2⟩)
    obtain⟨q0,hq0⟩:∃q0,wr.cell? ⟨r+1,0,none⟩=some (.pointer (some ⟨q0,0,none⟩))/\q0=E+1:=by
     obtain⟨_,_,_,i1⟩:=hS;obtain⟨_,_,_,c0,_⟩:=i1.cells;exact⟨_,c0,rfl⟩
    obtain⟨q1,rfl⟩:=hq0;clear hS;go_wp2_with (go_at_call 123;(with_reducible refine HA.o.mono ?_);rintro e w5 ⟨rfl,o5⟩;have O5:=qH o5;clear o5);obtain⟨k5,r5,hr5,i5⟩:=O5.o;obtain⟨cp5,v3,v4,c0,c1,c2,c3,c4,cf,hy,hm⟩:=i5.cells;have i5d:=i5.same ((Kept.refl NoB w5).drew);have HAt:=qH (zjo i5d.rd);obtain⟨l1,l2⟩:=HLow.o _ k5;have q1:w5.cell? ⟨E,0,none⟩=some (.int .i64 0):=(by simp[World.cell?,l2]);have q2:w5.frozen? ⟨E,0,none⟩=false:=(by simp[World.frozen?,l2]);have hdN:=i5.dl;have hcp:x'.2.length<=cp5:=hy.rb.nc;have hxs:=i5.rd.le;have hyd:Ry w5.drew r5 cp5 x'.2:=hy.of_block rfl;have HR:zhS (.ok ((),x')) d.size=.returned (.tuple #[.string ⟨(x'.2.drop d.size).toArray⟩,.int .i64 (((x'.1+7) /8:Nat):Int),.int .i64 0]):=rfl;obtain⟨a,ha⟩:∃a,8*((x'.1+7) /8)=a:=⟨_,rfl⟩
    obtain⟨U,hU⟩:∃U,(x'.1+7) /8=U:=⟨_,rfl⟩
    simp only[ha] at HAt;rw[hU] at HR;have hdiv:Int.tdiv (a:Int) 8=(U:Int):=(by rw[show(a:Int)=8*(U:Int) by omega];exact Int.mul_tdiv_cancel_left _ (by decide));have HRr:=qH HR;obtain⟨N,hN⟩:∃N,x'.2.length=N:=⟨_,rfl⟩
    simp only[hN] at c1 hdN hcp;have HL5:=qH (And.intro l1 l2);clear hy k5 i5 i5d hr5 HA HR c2 c3 c4;by_cases hcq:cp5=d.size
    · have hND:N=d.size:=by omega
      have hc:=V.Tx.conv_rb hyd.rb d.size d.size (hN.trans hND) qR ⟨r5,0,none⟩ (c:=0) (λe=>absurd e (by omega));rw[Nat.sub_self] at hc;have hwU:IntKind.i64.wrap (U:Int)=(U:Int):=IntWalk.i64_in _ ⟨by omega,by omega⟩;rw[hND,hcq] at c1;clear hyd hcq;refine zeX ?_
      go_region_with (go_at_call 124;(with_reducible refine HAt.o.mono ?_);rintro e w6 ⟨rfl,rfl⟩)
      all_goals refine Nrm.back ?_
      all_goals go_wp2_with fail
      all_goals
       refine leaves_cons (f:= 120) (args:= #[.pointer (some ⟨E,0,none⟩)]) (by simp) (by simp[go_sem]) ?_
       refine(catch_idle E _).mono ?_
       rintro e u' w'' ⟨rfl,rfl,rfl⟩;have q3:((w5.setCell ⟨E,0,none⟩ (.int .i64 0)).drew).cell? ⟨E,0,none⟩=some (.int .i64 0):=World.cell?_setCell_same' _ _ _ (by simp[q1]);have hbb:Below w.heap.size w ((w5.setCell ⟨E,0,none⟩ (.int .i64 0)).drew):=(by rw[hEe];exact(HL5.o.1.setCell (p:=⟨E,0,none⟩) qR _).drew);rw[HRr.o];simp[Leaves,settle,results,results84,go_sem,q3];exact hbb
    · have hc:=V.Tx.conv_rb hyd.rb d.size N hN (by omega) ⟨r5,d.size,none⟩ (c:=cp5 - d.size) (λe=>rfl)
      have hwU:IntKind.i64.wrap (U:Int)=(U:Int):=IntWalk.i64_in _ ⟨by omega,by omega⟩;clear hyd;refine zeX ?_
      go_region_with (go_at_call 124;(with_reducible refine HAt.o.mono ?_);rintro e w6 ⟨rfl,rfl⟩)
      all_goals refine Nrm.back ?_
      all_goals go_wp2_with fail
      all_goals
       refine leaves_cons (f:= 120) (args:= #[.pointer (some ⟨E,0,none⟩)]) (by simp) (by simp[go_sem]) ?_
       refine(catch_idle E _).mono ?_
       rintro e u' w'' ⟨rfl,rfl,rfl⟩;have q3:((w5.setCell ⟨E,0,none⟩ (.int .i64 0)).drew).cell? ⟨E,0,none⟩=some (.int .i64 0):=World.cell?_setCell_same' _ _ _ (by simp[q1]);have hbb:Below w.heap.size w ((w5.setCell ⟨E,0,none⟩ (.int .i64 0)).drew):=(by rw[hEe];exact(HL5.o.1.setCell (p:=⟨E,0,none⟩) qR _).drew);rw[HRr.o];simp[Leaves,settle,results,results84,go_sem,q3];exact hbb
theorem z6D(d s:ByteArray)(l:Int)(w:World)(hl:l<0):Calls prog 41 #[.string d,.string s,.int .i64 l] w λe w'=>e=.returned (.tuple #[.string ⟨#[]⟩,.int .i64 0,.int .i64 2])/\w=w':=by
 go_enter func41,ntmps41;go_wp2;go_ret3;exact⟨rfl,rfl⟩
theorem z6E(d s:ByteArray)(L K:Nat)(w:World)(hT:V.Tabs w)(hd:d.size<=32768)(hs:s.size<=100000)(hL:L<=800000000)(hK:8*s.size<K):
 Calls prog 41 #[.string d,.string s,.int .i64 L] w λe w'=>e=zhS (inf K s d.size L (0,d.data.toList)) d.size/\Below w.heap.size w w':=by
 have HR:=qH (read_any d s L K w hT (by omega) hs hL hK);obtain⟨R,hR⟩:∃R,zhS (inf K s d.size L (0,d.data.toList)) d.size=R:=⟨_,rfl⟩
 obtain⟨t,n,c,hRe⟩:∃t n c,R=.returned (.tuple #[.string t,.int .i64 n,.int .i64 c]):=⟨_,_,_,hR.symm⟩
 rw[hR] at HR ⊢;subst hRe;have d0:decide ((L:Int)<0)=false:=qF (by omega);have d1:IntKind.i64.wrap ((d.size:Int) - 32768)=(d.size:Int) - 32768:=IntWalk.i64_in _ ⟨by omega,by omega⟩;have d2:max (0:Int) ((d.size:Int) - 32768)=0:=(by omega);have d3:d.extract 0 d.size=d:=ByteArray.extract_zero_size;clear hT hR hK;go_enter func41,ntmps41;go_wp2_with (go_at_call 84;(with_reducible refine HR.o.mono ?_);rintro e w1 ⟨rfl,b1⟩;have B1:=qH b1;clear b1);go_ret3;exact⟨rfl,B1.o⟩
theorem inf_nought(k:Nat):inf (k+1) ⟨#[3,0,120]⟩ 0 9 (0,[])=.ok ((),(10,[])):=by
 have hl:lok fx 288 ⟨#[3,0,120]⟩ 3=(256,7,0):=zft (Tbl.fit (by decide+kernel)) (by decide) (by decide) (by decide) (by decide+kernel);have ht:Tbl fx 288:=(by decide+kernel);have b1:bits 1 ⟨#[3,0,120]⟩ 0 9 (0,[])=.ok (1,(1,[])):=(by unfold bits;rw[if_pos (by decide)];rfl);have b2:bits 2 ⟨#[3,0,120]⟩ 0 9 (1,[])=.ok (1,(3,[])):=(by unfold bits;rw[if_pos (by decide)];rfl);have b3:nxt fx 288 ⟨#[3,0,120]⟩ 0 9 (3,[])=.ok (256,(10,[])):=(by unfold nxt;rw[if_pos ht];simp only[hl];rfl);have b4:sym1 fx 288 (λ_=>5) 32 () ⟨#[3,0,120]⟩ 0 9 (3,[])=.ok (.inr (),(10,[])):=(by unfold sym1;rw[z00 b3,if_neg (by decide),if_pos rfl];rfl);have b5:body (k+1) 1 ⟨#[3,0,120]⟩ 0 9 (3,[])=.ok ((),(10,[])):=(by unfold body syms;rw[if_neg (by decide),if_pos rfl];exact z0E b4);have b6:blk (k+1) () ⟨#[3,0,120]⟩ 0 9 (0,[])=.ok (.inr (),(10,[])):=(by unfold blk;rw[z00 b1,z00 b2,z00 b5];rfl);exact z0E b6
structure Ifs(T:World->Prop):Prop where
 keep:∀ {w w':World},T w->Below w.heap.size w w'->T w'
 yes:∀ (d s:ByteArray) (L:Nat) (w:World),T w->d.size<=32768->s.size<=100000->L<=800000000->
  Calls prog 41 #[.string d,.string s,.int .i64 L] w λe w'=>e=zhS (inf 1000000 s d.size L (0,d.data.toList)) d.size/\Below w.heap.size w w'
 neg:∀ (d s:ByteArray) (l:Int) (w:World),T w->l<0->
  Calls prog 41 #[.string d,.string s,.int .i64 l] w λe w'=>e=.returned (.tuple #[.string ⟨#[]⟩,.int .i64 0,.int .i64 2])/\Below w.heap.size w w'
theorem ifs:Ifs V.Tabs where
 keep h b:=h.keep b
 yes d s L w hT hd hs hL:=z6E d s L 1000000 w hT hd hs hL (by omega)
 neg d s l w hT hl:=(z6D d s l w hl).mono λe w' ⟨h1,h2⟩=>⟨h1,h2▸Below.refl _ _⟩
theorem z5m{A:Option Addr}{n c:Nat}{l:Nat->Nat}{w:World}(H:z0e w .u8 A n (λi=>(l i:Int)))(hl:∀i,l i<=255)(hn:n<=1000)(no:Bool)(h0:no=false->kind l n≠0):Calls prog 138 #[.slice A n c,.bool no] w λe w'=>e=.returned (.bool (decide (Tbl l n)))/\w=w':=by
 have HK:=qH (C.rkind_any A n c l w (by unfold maxLen;omega) hl H);obtain⟨κ,hκ⟩:∃κ,kind l n=κ:=⟨_,rfl⟩
 have hT:decide (Tbl l n)=(decide (κ=0)||decide (κ=1)||decide (κ=2)):=by
  rw[<-Bool.decide_or,<-Bool.decide_or];refine decide_eq_decide.2 ?_
  unfold Tbl;rw[hκ,or_assoc]
 rw[hT];rw[hκ] at HK h0;clear H hl hT hκ;by_cases h2:κ=2
 · subst h2
   go_enter func138,ntmps138;go_wp2_with (go_at_call 181;(with_reducible refine HK.o.mono ?_);rintro e w1 ⟨rfl,rfl⟩);go_ret;exact⟨rfl,rfl⟩
 · by_cases h1:κ=1
   · subst h1
     go_enter func138,ntmps138;go_wp2_with (go_at_call 181;(with_reducible refine HK.o.mono ?_);rintro e w1 ⟨rfl,rfl⟩);go_ret;exact⟨rfl,rfl⟩
   · have d2:((κ:Int)==2)=false:=by rw[qN];omega
     have d1:((κ:Int)==1)=false:=(by rw[qN];omega);have e1:decide (κ=1)=false:=qF h1;have e2:decide (κ=2)=false:=qF h2;rw[e1,e2,Bool.or_false,Bool.or_false];cases no with
     |true=>
      by_cases h3:κ=0
      · subst h3
        clear h0;go_enter func138,ntmps138;go_wp2_with (go_at_call 181;(with_reducible refine HK.o.mono ?_);rintro e w1 ⟨rfl,rfl⟩);go_ret;exact⟨rfl,rfl⟩
      · have d0:((κ:Int)==0)=false:=by rw[qN];omega
        have e0:decide (κ=0)=false:=qF h3;rw[e0];clear h0 h1 h2 h3;go_enter func138,ntmps138;go_wp2_with (go_at_call 181;(with_reducible refine HK.o.mono ?_);rintro e w1 ⟨rfl,rfl⟩);go_ret;exact⟨rfl,rfl⟩
     |false=>
      have h3:=h0 rfl;have e0:decide (κ=0)=false:=qF h3;rw[e0];clear h0 h1 h2 h3;go_enter func138,ntmps138;go_wp2_with (go_at_call 181;(with_reducible refine HK.o.mono ?_);rintro e w1 ⟨rfl,rfl⟩);go_ret;exact⟨rfl,rfl⟩
theorem zif:Tbl fx 288:=by decide+kernel
theorem zig:Tbl (λ_=>5) 32:=by decide+kernel
theorem zkh(i:Nat):fx i<=255:=by unfold fx;(repeat' split)<;>omega
theorem zdU{K:Nat}{s:ByteArray}{D L:Nat}{x y:St}{all:List Nat}{na nb:Nat}(h:z5E K s D L x=.ok ((all,na,nb),y)):257<=na/\na<=286/\nb<=30/\all.getD 256 0≠0/\x.1<=y.1:=by
 unfold z5E at h;obtain⟨a,x1,h1,h⟩:=z0a h;obtain⟨b,x2,h2,h⟩:=z0a h;obtain⟨k,x3,h3,h⟩:=z0a h;have m1:=((z01.bits 5).mono h1).1;have m2:=((z01.bits 5).mono h2).1;have m3:=((z01.bits 4).mono h3).1;unfold zbh at h;by_cases q:286<a+257\/30<b+1
 · rw[if_pos q] at h;cases h
 · rw[if_neg q] at h
   obtain⟨o,x4,h4,h⟩:=z0a h;have m4:=((z01.ownR _ _ _).mono h4).1;unfold z6w at h;by_cases q2:kind o 19≠2
   · rw[if_pos q2] at h;cases h
   · rw[if_neg q2] at h
     obtain⟨al,x5,h5,h⟩:=z0a h;have m5:=((z01.loopR (λa=>z01.len1 _ _ a) _ _).mono h5).1;unfold zbg at h;by_cases q3:al.getD 256 0=0
     · rw[if_pos q3] at h;cases h
     · rw[if_neg q3] at h
       cases h
       exact⟨by omega,by omega,by omega,q3,by omega⟩
def zkw(e:Ending)(_:World):Prop:=∃b,e=.returned (.bool b)
theorem zbl{l:Nat->Nat}{n i:Nat}(hi:i<n)(h:l i≠0):kind l n≠0:=λq=>h (z1w n (z5G q) i hi)
section
variable {w w1:World} {B g r D L e:Nat} {s:ByteArray} {x y:St}
theorem zfW{ob n:Nat}{f:Nat->Nat}(h:Br w ob n f)(hg:ob≠g)(hr:ob≠r):Apn w g r (some ⟨ob,0,none⟩) n f:=λ_=>⟨ob,0,rfl,h.lt,hg,hr,λi hi=>by rw[Nat.zero_add];exact h.cell hi⟩
theorem zdh(h:Rin w B g r s D L 0 x)(hs:s.size<=100000)(hDL:D+L<=900000000)(K:Nat)(hK:8*s.size - x.1<K):
 Calls prog 99 #[.pointer (some ⟨g,0,none⟩)] w (zcy w B g r s D L (blk K () s D L x) zg1 zkw):=by
 generalize hR:blk K () s D L x=R;unfold blk at hR;have hmk:∀w,(Instr.makeSlice 26 (.int .i64 32) (.int .i64 32)).run prog w=.ok (.slice (some ⟨w.heap.size,0,none⟩) 32 32) (w.alloc (.cells (madeCells #[.int .u8 0] 32) 5)):=λw=>C.madeByte w 32 (by omega)
 have HI:=qH h;clear h;go_enter func99,ntmps99;go_wp2_with fail;refine(z23 HI.o hs (z:=1) (n:=1) rfl (by decide)).mono ?_
 rintro en w1 ⟨f,e1,x1,rfl,hf,i1,k1,q1⟩;obtain⟨I1,K1,Q1⟩:=qh3 i1 k1 q1;obtain⟨bl,hbl⟩:∃bl,decide (f=1)=bl:=⟨_,rfl⟩
 have df1:((f:Int)==1)=bl:=(by rw[<-hbl,Bool.eq_iff_iff,beq_iff_eq,decide_eq_true_eq];omega);have df2:(f==1)=bl:=(by rw[<-hbl,Bool.eq_iff_iff,beq_iff_eq,decide_eq_true_eq]);have hfin:∀ (s:ByteArray) (D L:Nat) (y:St),(pur (if f=1 then Sum.inr () else Sum.inl ()):Rm (Unit ⊕ Unit)) s D L y=.ok (z91 bl,y):=λs D L y=>by
  subst hbl;unfold z91;by_cases q:f=1
  · rw[if_pos q,if_pos (q9T q)];rfl
  · rw[if_neg q,if_neg (by rw[qF q];decide)];rfl
 have HFin:=qH hfin;have HV:=qH (show ∀w',zg1 (z91 bl) (.returned (.bool bl)) w' from λw'=>by cases bl<;>rfl);clear i1 k1 q1 hf hfin hbl;go_wp2_with fail;refine(z23 I1.o hs (z:=2) (n:=2) rfl (by decide)).mono ?_
 rintro en w2 ⟨k,e2,x2,rfl,hk,i2,k2,q2⟩;have hk4:k<4:=hk;have hst:(e2=0/\bnd (body K k) (λ_=>pur (if f=1 then Sum.inr () else Sum.inl ())) s D L x2=R/\x.1<=x2.1)\/(e2≠0/\R=.error e2):=by
  rcases Q1.o with⟨rfl,_,q1⟩|⟨n1,q1,_⟩
  · rw[z00 q1] at hR
    rcases q2 with⟨rfl,_,q2⟩|⟨n2,q2,_⟩
    · rw[z00 q2] at hR
      have m1:=((z01.bits 1).mono q1).1;have m2:=((z01.bits 2).mono q2).1;exact .inl ⟨rfl,hR,by omega⟩
    · rw[z03 (q2 rfl)] at hR;exact .inr ⟨n2,hR.symm⟩
  · rw[z03 (q1 (by first|rfl|trivial))] at hR
    rcases q2 with⟨_,q,_⟩|⟨n2,_,q2⟩
    · exact absurd q n1
    · rw[q2 n1];exact .inr ⟨n1,hR.symm⟩
 have I2:=qH i2;have K2:=qH (kgg K1.o k2);obtain⟨cp2,c20,c21,c22,_⟩:=i2.cells;clear i2 k2 q2 hk hR I1 K1 Q1 c20 c21;rcases hst with⟨rfl,hR,hx2⟩|⟨ne2,hR⟩
 · have hK2:8*s.size - x2.1<K:=by omega
   have hc:k=0\/k=1\/k=2\/k=3:=(by omega);rcases hc with rfl|rfl|rfl|rfl
   · rw[show body K 0=stor from rfl] at hR
     go_wp2_with fail;refine(zah I2.o hs (by omega)).mono ?_
     intro en w3 o;cases h3:stor s D L x2 with
     |error c=>
      rw[h3] at o;obtain⟨o1,o2,y,o3⟩:=o;unfold zcz at o1;subst o1;rw[z03 h3] at hR;subst hR;have O3:=qH (z08.trans (cgg K2.o) (.inl rfl) o3);clear h3 o3;go_wp2_with fail;go_ret;exact⟨⟨_,rfl⟩,o2,_,O3.o⟩
     |ok p=>
      rw[h3] at o;obtain⟨o1,o3⟩:=o;unfold zju at o1;subst o1;rw[z00 (a:=p.1) (y:=p.2) h3,HFin.o] at hR;subst hR;have O3:=qH (z08.trans (cgg K2.o) (.inl rfl) o3);clear h3 o3;go_wp2_with fail;go_ret;exact⟨HV.o _,O3.o⟩
   · rw[show body K 1=syms K fx 288 (λ_=>5) 32 from rfl] at hR
     have hg2:=I2.o.glt;have hr2:=I2.o.rlt;have Br0:=qH (Br.made' w2 32);have I3:=qH (I2.o.same ((Kept.refl NoB w2).alloc (.cells (madeCells #[.int .u8 0] 32) 5)));have K3:=qH (K2.o.trans ((Kept.refl NoB w2).alloc (.cells (madeCells #[.int .u8 0] 32) 5)) (λ_ e=>e.elim));have S3:=qH (show w2.heap.size<(w2.alloc (.cells (madeCells #[.int .u8 0] 32) 5)).heap.size from Br0.o.lt);go_wp2_with fail;clear hmk;generalize hob:w2.heap.size=ob at Br0 hg2 hr2 S3 ⊢;have hobg:ob≠g:=(by omega);have hobr:ob≠r:=(by omega);have hw0:=K2.o.size;rw[hob] at hw0;clear hob
     go_loopw [6] (λi wx=> ∃j:Nat,j<=32/\i=.int .i64 j/\Br wx ob 32 (λq=>if q<j then 5 else 0)/\Rin wx B g r s D L 0 x2/\Kept (λj=>j=g) w wx) (λi _=>32 - (intOf i).toNat)
     case atStart=>exact⟨0,by decide,rfl,Br0.o.congr (λi _=>by rw[if_neg (by omega)]),I3.o,K3.o⟩
     case round=>
      obtain⟨j,hj,rfl,hbr,hi3,hk3⟩:=hrel;obtain⟨HBr,HI3,HK3⟩:=qh3 hbr hi3 hk3;clear I3 K3 Br0 S3;by_cases hlt:j<32
      · have d1:decide ((j:Int)<32)=true:=q9T (by omega)
        have f3:=hbr.frozen j;have x3:=hbr.cell hlt;have HN:=qH ((HBr.o.set j 5).congr (f':=λq=>if q<j+1 then 5 else 0) (λq hq=>by
         by_cases e:q=j
         · rw[if_pos e,if_pos (by omega)]
         · rw[if_neg e]
           by_cases e':q<j
           · rw[if_pos e',if_pos (by omega)]
           · rw[if_neg e',if_neg (by omega)]))
        have HIs:=qH (HI3.o.set_off (i:=j) (u:=.int .u8 ((5:Nat):Int)) hobg hobr);have HKs:=qH (HK3.o.setCell ⟨ob,j,none⟩ (.inr hw0) (.int .u8 ((5:Nat):Int)));clear hbr hi3 hk3;go_wp2_with fail;go_roundw
        case rel=>exact⟨j+1,by omega,by go_num,HN.o,HIs.o,HKs.o⟩
        case measure=>simp[intOf];omega
      · obtain rfl:j=32:=by omega
        have hbr5:Br wr ob 32 (λ_=>5):=HBr.o.congr (λi hi=>by rw[if_pos hi]);have HBr5:=qH hbr5;clear hbr hi3 hk3 HBr hbr5
        go_wp2_with (go_at_call 106;(with_reducible refine(V.fixed_any _).mono ?_);rintro e w4 ⟨la,da,rfl,hla,hda,bla,bda,b4⟩
                     have Bla:=qH bla;have i4:=HI3.o.below b4;have k4:=HK3.o.trans (Kept.of_below b4) (λ_ e=>e.elim);have br4:=HBr5.o.below b4 HBr5.o.lt;obtain⟨I4,K4,Br4⟩:=qh3 i4 k4 br4;have Hla:=qH (show la≠g/\la≠r from⟨by have:=HI3.o.glt;omega,by have:=HI3.o.rlt;omega⟩);clear bla bda b4 i4 k4 br4 hla hda)
        have ka:=(Kept.refl NoB w4).alloc (.cells #[.slice (some ⟨la,0,none⟩) 288 288,.slice (some ⟨da,0,none⟩) 30 30] 149);have I5:=qH (I4.o.same ka);have K5:=qH (K4.o.trans ka (λ_ e=>e.elim));have A1:=qH (zfW (f:=fx) (g:=g) (r:=r) (Bla.o.alloc (.cells #[.slice (some ⟨la,0,none⟩) 288 288,.slice (some ⟨da,0,none⟩) 30 30] 149)) Hla.o.1 Hla.o.2);have A2:=qH (zfW (g:=g) (r:=r) (Br4.o.alloc (.cells #[.slice (some ⟨la,0,none⟩) 288 288,.slice (some ⟨da,0,none⟩) 30 30] 149)) hobg hobr);clear ka;refine(z3X I5.o hs hDL A1.o A2.o zkh (λ_=>by omega) zif zig (by decide) (by decide) hK2).mono ?_
        intro en w3 o;cases h3:syms K fx 288 (λ_=>5) 32 s D L x2 with
        |error c=>
         rw[h3] at o;obtain⟨o1,o2,y,o3⟩:=o;unfold zcz at o1;subst o1;rw[z03 h3] at hR;subst hR;have O3:=qH (z08.trans (cgg K5.o) (.inl rfl) o3);clear h3 o3;go_wp2_with fail;go_ret;exact⟨⟨_,rfl⟩,o2,_,O3.o⟩
        |ok p=>
         rw[h3] at o;obtain⟨o1,o3⟩:=o;unfold zju at o1;subst o1;rw[z00 (a:=p.1) (y:=p.2) h3,HFin.o] at hR;subst hR;have O3:=qH (z08.trans (cgg K5.o) (.inl rfl) o3);clear h3 o3;go_wp2_with fail;go_ret;exact⟨HV.o _,O3.o⟩
   · rw[show body K 2=bnd (dyn K) λt=>syms K (lit t.1) t.2.1 (dis t.1 t.2.1) t.2.2 from rfl,zel] at hR
     clear hmk;go_wp2_with fail;refine(zgA I2.o hs K hK2).mono ?_
     intro en w3 o;cases h3:z5E K s D L x2 with
     |error c=>
      rw[h3] at o;obtain⟨o1,hc0,y,i3,k3⟩:=o;subst o1;rw[z03 (z03 (z03 h3))] at hR;subst hR;have dn:((c:Int)==0)=false:=(by rw[qN];omega);have HS:=qH (λa b=>z3W i3.start hc0 a b);obtain⟨cp3,c30,c31,c32,_⟩:=i3.cells;have I3:=qH i3;have K3:=qH (kgg K2.o k3);have Hc0:=qH hc0;clear h3 i3 k3 c30 c31 hc0;go_wp2_with (go_at_call 136;(with_reducible refine(HS.o _ _).mono ?_);rintro e w4 ⟨rfl,rfl⟩);go_ret;exact⟨⟨_,rfl⟩,Hc0.o,y,cgg K3.o,r,.inl rfl,I3.o⟩
     |ok p=>
      obtain⟨⟨all,na,nb⟩,x3⟩:=p;rw[h3] at o;obtain⟨A1,c1,A2,c2,rfl,hc1,hc2,ap1,ap2,h255,i3,k3⟩:=o;simp only at hc1 hc2 ap1 ap2 h255 i3;obtain⟨hna1,hna,hnb,h256,hx3⟩:=zdU h3;rw[z0i,z0i,z00 h3] at hR;have hgd:∀i,all.getD i 0<=255:=λi=>by
       by_cases q:i<all.length
       · rw[List.getD,qE q];exact h255 _ (List.getElem_mem _)
       · rw[List.getD,List.getElem?_eq_none (by omega)];exact qZ
      have F1:=z5m (c:=c1) (w:=w3) ap1.nums (λi=>hgd i) (by omega) false (λ_=>zbl (i:=256) (by omega) h256);have F2:=z5m (c:=c2) (w:=w3) ap2.nums (λi=>hgd (na+i)) (by omega) true (λh=>by cases h);obtain⟨cp3,c30,c31,c32,_⟩:=i3.cells;have I3:=qH i3;have K3:=qH (kgg K2.o k3);have HF:=qH (z4r i3 162 162 rfl);have HS:=qH (λ(W:World) (o:z08 w3 B g r s D L 162 x3 W) a b=>z3W o (by decide) a b);by_cases t1:Tbl (lit all) na
      · rw[q9T t1] at F1
        by_cases t2:Tbl (dis all na) nb
        · rw[q9T t2] at F2
          have htb:tabs (all,na,nb) s D L x3=.ok ((all,na,nb),x3):=by
           unfold tabs;rw[if_neg (λh=>h.elim (λh=>h t1) (λh=>h t2))];rfl
          rw[z00 htb] at hR;have HSy:=qH (z3X i3 hs hDL ap1 ap2 (λi=>hgd i) (λi=>hgd (na+i)) t1 t2 hc1 hc2 (K:=K) (by omega));obtain⟨F1,F2⟩:=qh2 F1 F2;clear h3 i3 k3 c30 c31 ap1 ap2 h255 hgd h256 t1 t2 HF HS htb
          go_wp2_with (first
           |(go_at_call 138;(with_reducible refine F1.o.mono ?_);rintro e w4 ⟨rfl,rfl⟩)
           |(go_at_call 138;(with_reducible refine F2.o.mono ?_);rintro e w5 ⟨rfl,rfl⟩))
          refine HSy.o.mono ?_
          intro en w6 o;cases h3:syms K (lit all) na (dis all na) nb s D L x3 with
          |error c=>
           rw[h3] at o;obtain⟨o1,o2,y,o3⟩:=o;unfold zcz at o1;subst o1;rw[z03 h3] at hR;subst hR;have O3:=qH (z08.trans (cgg K3.o) (.inl rfl) o3);clear h3 o3;go_wp2_with fail;go_ret;exact⟨⟨_,rfl⟩,o2,_,O3.o⟩
          |ok p=>
           rw[h3] at o;obtain⟨o1,o3⟩:=o;unfold zju at o1;subst o1;rw[z00 (a:=p.1) (y:=p.2) h3,HFin.o] at hR;subst hR;have O3:=qH (z08.trans (cgg K3.o) (.inl rfl) o3);clear h3 o3;go_wp2_with fail;go_ret;exact⟨HV.o _,O3.o⟩
        · rw[qF t2] at F2
          have htb:tabs (all,na,nb) s D L x3=.error 162:=by
           unfold tabs;rw[if_pos (.inr t2)];rfl
          rw[z03 htb] at hR;subst hR;obtain⟨F1,F2⟩:=qh2 F1 F2;clear h3 i3 k3 c30 c31 ap1 ap2 h255 hgd h256 t1 t2 htb
          go_wp2_with (first
           |(go_at_call 138;(with_reducible refine F1.o.mono ?_);rintro e w4 ⟨rfl,rfl⟩)
           |(go_at_call 138;(with_reducible refine F2.o.mono ?_);rintro e w5 ⟨rfl,rfl⟩)
           |(go_at_call 139;(with_reducible refine HF.o.mono ?_);rintro e w6 ⟨rfl,o6⟩;have O6:=qH o6;clear o6)
           |(go_at_call 136;(with_reducible refine(HS.o _ O6.o _ _).mono ?_);rintro e w7 ⟨rfl,rfl⟩))
          go_ret;exact⟨⟨_,rfl⟩,by decide,x3,z08.trans (cgg K3.o) (.inl rfl) O6.o⟩
      · rw[qF t1] at F1
        have htb:tabs (all,na,nb) s D L x3=.error 162:=by
         unfold tabs;rw[if_pos (.inl t1)];rfl
        rw[z03 htb] at hR;subst hR;have F1:=qH F1;clear h3 i3 k3 c30 c31 ap1 ap2 h255 hgd h256 t1 htb F2
        go_wp2_with (first
         |(go_at_call 138;(with_reducible refine F1.o.mono ?_);rintro e w4 ⟨rfl,rfl⟩)
         |(go_at_call 139;(with_reducible refine HF.o.mono ?_);rintro e w6 ⟨rfl,o6⟩;have O6:=qH o6;clear o6)
         |(go_at_call 136;(with_reducible refine(HS.o _ O6.o _ _).mono ?_);rintro e w7 ⟨rfl,rfl⟩))
        go_ret;exact⟨⟨_,rfl⟩,by decide,x3,z08.trans (cgg K3.o) (.inl rfl) O6.o⟩
   · have HF:=qH (z4r I2.o 160 160 rfl)
     rw[z03 (show body K 3 s D L x2=.error 160 from rfl)] at hR;subst hR;go_wp2_with (go_at_call 139;(with_reducible refine HF.o.mono ?_);rintro e w3 ⟨rfl,o3⟩;have O3:=qH (z08.trans (cgg K2.o) (.inl rfl) o3);clear o3);go_ret;exact⟨⟨_,rfl⟩,by decide,_,O3.o⟩
 · subst hR
   have dp:((e2:Int) !=0)=true:=(by rw[bne_iff_ne];omega);go_wp2_with fail;go_ret;exact⟨⟨_,rfl⟩,ne2,x2,cgg K2.o,r,.inl rfl,I2.o⟩
end
theorem rinflate_neg(d s:ByteArray)(l:Int)(w:World)(hl:l<0):Calls prog 74 #[.string d,.string s,.int .i64 l] w λe w'=>e=.returned (.tuple #[.string ⟨#[]⟩,.int .i64 0,.int .i64 2])/\w=w':=by
 have d0:decide (l<0)=true:=q9T hl;clear hl;go_enter func74,ntmps74;go_wp2_with fail;go_ret3;exact⟨rfl,rfl⟩
section
variable {w W:World} {B g r D L e:Nat} {s:ByteArray} {x:St}
theorem z08.block(o:z08 w B g r s D L 0 x W)(hs:s.size<=100000)(hDL:D+L<=900000000)(K:Nat)(hK:8*s.size - x.1<K):
 Calls prog 99 #[.pointer (some ⟨g,0,none⟩)] W (zcy w B g r s D L (blk K () s D L x) zg1 zkw):=o.lift λr1 _ i=>zdh i hs hDL K hK
theorem rinflate_any(d s:ByteArray)(L K:Nat)(w:World)(hd:d.size<=32768)(hs:s.size<=100000)(hL:L<=800000000)(hK:8*s.size<K):
 Calls prog 74 #[.string d,.string s,.int .i64 L] w λe w'=>e=zhS (inf K s d.size L (0,d.data.toList)) d.size/\Below w.heap.size w w':=by
 have hdl:d.data.toList.length=d.size:=Array.length_toList;generalize hF:inf K s d.size L (0,d.data.toList)=F;unfold inf at hF;have d0:decide ((L:Int)<0)=false:=qF (by omega);have d1:decide (32768<(d.size:Int))=false:=qF (by omega);obtain⟨cp,w3,hc3,y3,b3,s3⟩:=zfa w d (by omega);generalize hr:w.heap.size=r at hc3 y3 b3 s3 ⊢;have hnew:(w3.alloc (.cells #[.string s,.int .i64 0,.int .i64 0,.slice (some ⟨r,0,none⟩) d.size cp,.int .i64 (d.size:Int),.int .i64 (L:Int)] 133)).heap[r+1]? =some (.cells #[.string s,.int .i64 0,.int .i64 0,.slice (some ⟨r,0,none⟩) d.size cp,.int .i64 (d.size:Int),.int .i64 (L:Int)] 133 (0,0)):=(by rw[<-s3];exact heap_alloc_new _ _);have hkA:Kept NoB w3 (w3.alloc (.cells #[.string s,.int .i64 0,.int .i64 0,.slice (some ⟨r,0,none⟩) d.size cp,.int .i64 (d.size:Int),.int .i64 (L:Int)] 133)):=(Kept.refl _ _).alloc _;generalize hw4:w3.alloc (.cells #[.string s,.int .i64 0,.int .i64 0,.slice (some ⟨r,0,none⟩) d.size cp,.int .i64 (d.size:Int),.int .i64 (L:Int)] 133)=w4 at hnew hkA;have hI4:Rin w4 r (r+1) r s d.size L 0 (0,d.data.toList):=by
  refine⟨by omega,qR,⟨cp,?_,y3.kept hkA (λe=>e)⟩,by simp only;omega,by simp only;omega,qZ⟩;simp only[hdl];exact hnew
 have hb4:Below r w w4:=b3.trans (hkA.below (B:=r) (by rw[s3];omega) (λ_ e=>e.elim));have HI4:=qH hI4;have HB4:=qH (λ(W:World) (hk:Kept (Cg (r+1) r) w4 W)=>(show Below r w W from hb4.trans (hk.below (by have:=hI4.rlt;omega) (λj e=>by rcases e with e|e<;>omega))));obtain⟨HF,HW4⟩:=qh2 hF hw4;clear hnew hkA hI4 hb4 y3 b3 hF hw4 hr;go_enter func74,ntmps74;go_wp2_with fail;rw[HW4.o];clear hc3
 go_loopw [28] (λ_ wr=>(∃k x',z08 w4 r (r+1) r s d.size L 0 x' wr/\8*s.size - x'.1<k/\loopR (blk K) k () s d.size L x'=F)\/(∃c y,F=.error c/\c≠0/\z08 w4 r (r+1) r s d.size L c y wr)) (λ_ wr=>rms (r+1) (8*s.size) wr)
 case atStart=>exact .inl ⟨K,_,HI4.o.start,by simp only;omega,HF.o⟩
 case round=>
  clear HF HI4 HW4 s3;rcases hrel with⟨k,x',hS,hk,hFk⟩|⟨c,y,hFc,hc0,hS⟩
  · obtain⟨k,rfl⟩:∃j,k=j+1:=⟨k - 1,by omega⟩
    have hal:=hS.al;have hms:=hS.rms_0 (8*s.size);obtain⟨e0,e1,e2,ef⟩:=hS.cells;have HBk:=qH (hS.block hs (by omega) K (by omega));have HMs:=qH hms;clear hS e0 e1 ef hms;go_wp2_with fail;refine HBk.o.mono ?_
    intro e w5 o;cases hb:blk K () s d.size L x' with
    |error c=>
     rw[hb] at o;obtain⟨⟨b,o1⟩,hc0,y,o3⟩:=o;subst o1;obtain rfl:F=.error c:=by rw[<-hFk];exact z0f hb
     obtain⟨d0',d1'',d2,df⟩:=o3.cells;have dp:((c:Int) !=0)=true:=(by rw[bne_iff_ne];omega);obtain⟨O3,Hc0⟩:=qh2 o3 hc0;clear hb hFk hk o3 hc0 d0' d1'' df HBk;cases b with
     |true=>
      go_wp2_with fail
      go_quiet (fail)
      go_wp2_with fail;go_ret3;exact⟨rfl,HB4.o _ (O3.o.kept.drewN _)⟩
     |false=>
      go_wp2_with fail;go_roundw
      case rel=>exact .inr ⟨c,y,rfl,Hc0.o,O3.o⟩
      case measure=>rw[O3.o.rms_e Hc0.o,HMs.o];omega
    |ok p=>
     obtain⟨u,x2⟩:=p;rw[hb] at o;obtain⟨o1,o3⟩:=o;unfold zg1 at o1;obtain⟨m1,m2⟩:=z8a hb hal;cases u with
     |inl u=>
      simp only at o1;subst o1;have HG:=qH ((z1d (k:=k) hb).symm.trans hFk);have O3:=qH o3;have hkk:8*s.size - x2.1<k:=(by omega);clear hb hFk o3 HBk;go_wp2_with fail;go_roundw
      case rel=>exact .inl ⟨k,x2,O3.o,hkk,HG.o⟩
      case measure=>rw[O3.o.rms_0,HMs.o];omega
     |inr u=>
      simp only at o1;subst o1;have hG:=(z0E (k:=k) hb).symm.trans hFk;have hE:F=.ok ((),x2):=hG.symm;subst hE;obtain⟨d0',d1'',d2,df⟩:=o3.cells;obtain⟨r5,cp5,k3,hy⟩:=o3.o;have hdN:=o3.dl;have hxs:=o3.al;have hcp:x2.2.length<=cp5:=hy.rb.nc;have hyd:Ry w5.drew r5 cp5 x2.2:=hy.of_block rfl;have hKd:=o3.kept;obtain⟨a,ha⟩:∃a,x2.1=a:=⟨_,rfl⟩
      obtain⟨U,hU⟩:∃U,(a+7) /8=U:=⟨_,rfl⟩
      have HR:zhS (.ok ((),x2)) d.size=.returned (.tuple #[.string ⟨(x2.2.drop d.size).toArray⟩,.int .i64 (U:Int),.int .i64 0]):=(by rw[<-hU,<-ha];rfl);have HRr:=qH HR;rw[ha] at d1'' hxs;have t1:((a:Int)+7).tdiv 8=(U:Int):=(by rw[Int.tdiv_eq_ediv_of_nonneg (by omega)];omega);have t2:IntKind.i64.wrap ((a:Int)+7)=(a:Int)+7:=IntWalk.i64_in _ ⟨by omega,by omega⟩;have hwU:IntKind.i64.wrap (U:Int)=(U:Int):=IntWalk.i64_in _ ⟨by omega,by omega⟩;generalize hN:x2.2.length=N at k3 hdN hcp;have HBb:=qH (HB4.o _ hKd);clear hb hFk o3 HBk hG hy ha hU HR df d0' hKd;by_cases hcq:cp5=d.size
      · have hND:N=d.size:=by omega
        have hc:=V.Tx.conv_rb hyd.rb d.size d.size (hN.trans hND) qR ⟨r5,0,none⟩ (c:=0) (λe=>absurd e (by omega));rw[Nat.sub_self] at hc;rw[hND,hcq] at k3;clear hyd hcq;go_wp2_with fail
        go_region
        all_goals go_wp2_with fail
        all_goals go_ret3
        all_goals
         refine⟨?_,HBb.o.drew⟩;rw[HRr.o];rfl
      · have hc:=V.Tx.conv_rb hyd.rb d.size N hN (by omega) ⟨r5,d.size,none⟩ (c:=cp5 - d.size) (λe=>rfl)
        clear hyd;go_wp2_with fail
        go_region
        all_goals go_wp2_with fail
        all_goals go_ret3
        all_goals
         refine⟨?_,HBb.o.drew⟩;rw[HRr.o];rfl
  · obtain⟨e0,e1,e2,ef⟩:=hS.cells
    have d2:((c:Int)==0)=false:=(by rw[qN];omega);have d3:((c:Int) !=0)=true:=(by rw[bne_iff_ne];omega);have HS:=qH hS;clear hS e0 e1 ef;go_wp2_with fail
    go_quiet (fail)
    go_wp2_with fail;go_ret3;rw[hFc];exact⟨rfl,HB4.o _ (HS.o.kept.drewN _)⟩
end
end Go.Proofs.YthgilhebnlglkaaGreatDoor.I
namespace Go.Proofs.YthgilhebnlglkaaGreatDoor.Z
open Go Go.RowKit
theorem za3{a b:ByteArray}(h:a≠b):(a.toList==b.toList)=false:=by
 rw[qN];intro q;rw[ByteArray.toList_eq,ByteArray.toList_eq] at q;exact h (ByteArray.ext (Array.ext' q))
noncomputable def rin(D t:ByteArray)(lim:Int):List UInt8×Nat×Nat:=if lim<0 then([],0,2) else I.ans (I.inf 1000000 t D.size lim.toNat (0,D.data.toList)) D.size
theorem zfc{D t:ByteArray}{lim:Int}(hs:t.size<=100000)(h:(rin D t lim).2.2=0):(rin D t lim).2.1<=t.size:=by
 unfold rin at h ⊢;by_cases q:lim<0
 · rw[if_pos q] at h;cases h
 · rw[if_neg q] at h ⊢
   have hz:=I.inf_nz (s:=t) (K:=1000000) (D:=D.size) (L:=lim.toNat) (x:=(0,D.data.toList)) (by omega) qZ;obtain⟨y,hy⟩:=I.ans_ok h hz;rw[hy];exact(I.inf_bounds (Array.length_toList:D.data.toList.length=D.size) hy).2.1
theorem zis(s:ByteArray)(o:Nat)(h:o+4<=s.size):sa (s.extract o s.size) 0 4=sa s o 4:=by
 have e:∀i,i<4->at8 (s.extract o s.size) i=at8 s (o+i):=λi hi=>by
  unfold at8;have:(s.extract o s.size).data.toList=(s.data.toList.drop o).take (s.size - o):=(by simp[List.drop_take]);rw[this,List.getD,List.getElem?_take,if_pos (by omega),List.getElem?_drop,List.getD]
 rw[z2X,z2X,e 0 (by decide),e 1 (by decide),e 2 (by decide),e 3 (by decide),Nat.add_zero]
section
variable {T:World->Prop}
theorem zkd(C:I.Ifs T)(D t:ByteArray)(lim:Int)(w:World)(H:T w)(hD:D.size<=32768)(ht:t.size<=100000)(hl:lim<=800000000):Calls prog 41 #[.string D,.string t,.int .i64 lim] w λe w'=>e=.returned (.tuple #[.string ⟨(rin D t lim).1.toArray⟩,.int .i64 ((rin D t lim).2.1:Int),.int .i64 ((rin D t lim).2.2:Int)])/\Below w.heap.size w w':=by
 unfold rin;by_cases q:lim<0
 · rw[if_pos q];exact C.neg D t lim w H q
 · rw[if_neg q]
   have:=C.yes D t lim.toNat w H hD ht (by omega);rw[show((lim.toNat:Nat):Int)=lim by omega] at this;exact this
theorem zkc(D t:ByteArray)(lim:Int)(w:World)(hD:D.size<=32768)(ht:t.size<=100000)(hl:lim<=800000000):Calls prog 74 #[.string D,.string t,.int .i64 lim] w λe w'=>e=.returned (.tuple #[.string ⟨(rin D t lim).1.toArray⟩,.int .i64 ((rin D t lim).2.1:Int),.int .i64 ((rin D t lim).2.2:Int)])/\Below w.heap.size w w':=by
 unfold rin;by_cases q:lim<0
 · rw[if_pos q];exact(I.rinflate_neg D t lim w q).mono λe w' h=>⟨h.1,h.2▸Below.refl _ _⟩
 · rw[if_neg q]
   have:=I.rinflate_any D t lim.toNat 1000000 w hD ht (by omega) (by omega);rw[show((lim.toNat:Nat):Int)=lim by omega] at this;exact this
theorem z5p(d s:ByteArray)(r:List UInt8×Nat×Nat):((dct s).2.2≠0/\rdz d s r=(⟨#[]⟩,0,(dct s).2.2))\/((dct s).2.2=0/\(dct s).2.1=true/\(dct s).1≠adl 1 d/\rdz d s r=(⟨#[]⟩,0,171))\/
 ((dct s).2.2=0/\((dct s).2.1=true->(dct s).1=adl 1 d)/\((r.2.2≠0/\rdz d s r=(⟨#[]⟩,0,r.2.2))\/(r.2.2=0/\s.size<ahd s+r.2.1+4/\rdz d s r=(⟨#[]⟩,0,6))\/(r.2.2=0/\ahd s+r.2.1+4<=s.size/\sa s (ahd s+r.2.1) 4≠adl 1 ⟨r.1.toArray⟩/\rdz d s r=(⟨#[]⟩,0,172))\/(r.2.2=0/\ahd s+r.2.1+4<=s.size/\sa s (ahd s+r.2.1) 4=adl 1 ⟨r.1.toArray⟩/\rdz d s r=(⟨r.1.toArray⟩,ahd s+r.2.1+4,0)))):=by
 unfold rdz;by_cases h1:(dct s).2.2≠0
 · rw[if_pos h1];exact .inl ⟨h1,rfl⟩
 · rw[if_neg h1]
   have h1':(dct s).2.2=0:=(by omega);by_cases h2:(dct s).2.1=true/\(dct s).1≠adl 1 d
   · rw[if_pos h2];exact .inr (.inl ⟨h1',h2.1,h2.2,rfl⟩)
   · rw[if_neg h2]
     refine .inr (.inr ⟨h1',λh=>Classical.byContradiction λg=>h2 ⟨h,g⟩,?_⟩);unfold rdt;by_cases h3:r.2.2≠0
     · rw[if_pos h3];exact .inl ⟨h3,rfl⟩
     · rw[if_neg h3]
       have h3':r.2.2=0:=(by omega);by_cases h4:s.size<ahd s+r.2.1+4
       · rw[if_pos h4];exact .inr (.inl ⟨h3',h4,rfl⟩)
       · rw[if_neg h4]
         by_cases h5:sa s (ahd s+r.2.1) 4≠adl 1 ⟨r.1.toArray⟩
         · rw[if_pos h5];exact .inr (.inr (.inl ⟨h3',by omega,h5,rfl⟩))
         · rw[if_neg h5];exact .inr (.inr (.inr ⟨h3',by omega,Classical.byContradiction h5,rfl⟩))
end
noncomputable def rdv(d s:ByteArray)(lim:Int):ByteArray×Nat×Nat:=rdz d s (rin (dic d s) (s.extract (ahd s) s.size) lim)
theorem zfY(s:ByteArray)(h:(dct s).2.2=0):ahd s<=s.size/\2<=s.size:=by
 unfold ahd;unfold dct at h ⊢
 split at h
 · cases h
 · rename_i h2
   split at h
   · cases h
   · split at h
     · rename_i h3 h4
       rw[if_neg h2,if_neg h3,if_pos h4,if_neg (by decide)];omega
     · split at h
       · cases h
       · rename_i h3 h4 h5
         rw[if_neg h2,if_neg h3,if_neg h4,if_neg h5,if_pos rfl];omega
theorem zbS(s:ByteArray):(dct s).1<4294967296:=by
 unfold dct
 split
 · decide
 · split
   · decide
   · split
     · decide
     · split
       · decide
       · exact zd3 s 2 4
theorem z7n{D t:ByteArray}{lim:Int}(hs:t.size<=100000)(hD:D.size<=32768)(hl:lim<=800000000):(⟨(rin D t lim).1.toArray⟩:ByteArray).size<=maxLen:=by
 have hsz:∀l:List UInt8,(⟨l.toArray⟩:ByteArray).size=l.length:=λl=>by show l.toArray.size=_;simp
 rw[hsz];unfold rin
 split
 · exact qZ
 · cases q:I.inf 1000000 t D.size lim.toNat (0,D.data.toList) with
   |error e=>exact qZ
   |ok p=>
    have h1:(p.2.2.drop D.size).length<=lim.toNat:=(I.inf_bounds (y:=p.2) (Array.length_toList:D.data.toList.length=D.size) q).1;have h2:lim.toNat<=800000000:=(by omega);exact qK h1 (qK h2 (by decide))
theorem read_any{T:World->Prop}(C:I.Ifs T)(d s:ByteArray)(lim:Int)(w:World)(H:T w)(hd:d.size<=32768)(hs:s.size<=100000)(hl:lim<=800000000):
 Calls prog 14 #[.string d,.string s,.int .i64 lim] w λe w'=>e=.returned (.tuple #[.string (rdv d s lim).1,.int .i64 ((rdv d s lim).2.1:Int),.int .i64 ((rdv d s lim).2.2:Int)])/\Below w.heap.size w w':=by
 have HDc:=qH (λw=>z4J s w (by unfold maxLen;omega));have HIn:=qH (λ(w':World) (b:Below w.heap.size w w')=>zkd C (dic d s) (s.extract (ahd s) s.size) lim w' (C.keep H b) (by unfold dic;split;exact hd;exact qZ) (by rw[ByteArray.size_extract];omega) hl);have HAd:=qH (λw=>z3u d w (by unfold maxLen;omega));have hrle:=zfc (D:=dic d s) (t:=s.extract (ahd s) s.size) (lim:=lim) (by rw[ByteArray.size_extract];omega);have hrsz:=z7n (D:=dic d s) (t:=s.extract (ahd s) s.size) (lim:=lim) (by rw[ByteArray.size_extract];omega) (by unfold dic;split;exact hd;exact qZ) hl;rw[ByteArray.size_extract] at hrle;have hext:=λo h=>zis s o h
 have hcs:=z5p d s (rin (dic d s) (s.extract (ahd s) s.size) lim);have hal:=zfY s;have hilt:=zbS s;have hA:adl 1 d<4294967296:=(by have:=z4f 1 d;unfold z13 at this;exact this);unfold rdv;generalize hr:rin (dic d s) (s.extract (ahd s) s.size) lim=r at hcs hrle hrsz ⊢;simp only[hr] at HIn;clear hr;obtain⟨RL,RU,RC⟩:=r;simp only at hcs hrle hrsz HIn;obtain⟨X,hX⟩:∃X:ByteArray,(⟨RL.toArray⟩:ByteArray)=X:=⟨_,rfl⟩
 rw[hX] at hcs HIn hrsz;have hAX:adl 1 X<4294967296:=(by have:=z4f 1 X;unfold z13 at this;exact this);generalize hV:rdz d s (RL,RU,RC)=V at hcs ⊢;clear hV hX;have HAX:=qH (λw=>z3u X w hrsz);obtain⟨A,hAe⟩:∃A,adl 1 d=A:=⟨_,rfl⟩
 obtain⟨AX,hAXe⟩:∃AX,adl 1 X=AX:=⟨_,rfl⟩
 simp only[hAe] at HAd hcs hA;simp only[hAXe] at HAX hcs hAX;clear hAe hAXe hd hrsz;have hah:ahd s=if(dct s).2.1=true then 6 else 2:=rfl;have hdi:dic d s=if(dct s).2.1=true then d else⟨#[]⟩:=rfl;obtain⟨q,hq⟩:∃q,dct s=q:=⟨_,rfl⟩
 obtain⟨id,is,ec⟩:=q;rw[hq] at hcs hal hilt hah hdi;simp only[hq] at HDc;simp only at hcs hal hilt hah hdi HDc;clear hq;rcases hcs with⟨h0,hVe⟩|⟨h0,h1,h2,hVe⟩|⟨h0,h1,hcs⟩
 · subst hVe
   have dn:((ec:Int) !=0)=true:=(by rw[bne_iff_ne];omega);clear hal hah hdi;go_enter func14,ntmps14;go_wp2_with (go_at_call 30;(with_reducible refine(HDc.o _).mono ?_);rintro e w1 ⟨rfl,b1⟩;have B1:=qH b1;clear b1);go_ret3;exact⟨rfl,B1.o⟩
 · subst hVe
   subst h0;subst h1;have dn:((id:Int) !=(A:Int))=true:=(by rw[bne_iff_ne];omega);clear hal hah hdi h2;go_enter func14,ntmps14
   go_wp2_with (first
    |(go_at_call 30;(with_reducible refine(HDc.o _).mono ?_);rintro e w1 ⟨rfl,b1⟩;have B1:=qH b1;clear b1)
    |(go_at_call 40;(with_reducible refine(HAd.o _).mono ?_);rintro e w2 ⟨rfl,rfl⟩)
    )
   go_ret3;exact⟨rfl,B1.o⟩
 · subst h0
   obtain⟨haL,h2s⟩:=hal rfl;have hstr:(s.extract (ahd s) s.size).size=s.size - ahd s:=(by rw[ByteArray.size_extract];omega);cases is with
   |true=>
    rw[if_pos rfl] at hah hdi;have h1:=h1 rfl;subst h1;rw[hah] at hcs hrle haL hstr;rw[hah,hdi] at HIn;obtain⟨St,hSt⟩:∃St,s.extract 6 s.size=St:=⟨_,rfl⟩
    simp only[hSt] at HIn;rw[hSt] at hstr;rcases hcs with⟨hc,hVe⟩|⟨hc,hlen,hVe⟩|⟨hc,hlen,hsum,hVe⟩|⟨hc,hlen,hsum,hVe⟩
    · subst hVe
      have dn:((RC:Int) !=0)=true:=(by rw[bne_iff_ne];omega);clear hah hdi hstr;go_enter func14,ntmps14;go_wp2_with (first
      |(go_at_call 30;(with_reducible refine(HDc.o _).mono ?_);rintro e w1 ⟨rfl,b1⟩;have B1:=qH b1;clear b1)
      |(go_at_call 40;(with_reducible refine(HAd.o _).mono ?_);rintro e w2 ⟨rfl,rfl⟩)
      |(go_at_call 41;(with_reducible refine qcb B1 (HIn.o _ B1.o) ?_);intro w4 B4))
      go_ret3;exact⟨rfl,B4.o⟩
    · subst hVe
      subst hc;have hU:=hrle rfl;have hUs:RU<=100000:=(by omega);obtain⟨E,hE⟩:∃E,6+RU=E:=⟨_,rfl⟩
      rw[hE] at hlen
      try rw[hE]
      have z1:IntKind.i64.wrap (6+(RU:Int))=(E:Int):=(by rw[IntWalk.i64_in _ ⟨by omega,by omega⟩];omega);have z2:6+(RU:Int)=(E:Int):=(by omega);have z3:IntKind.i64.wrap ((E:Int)+4)=(E:Int)+4:=IntWalk.i64_in _ ⟨by omega,by omega⟩;have hEs:E<=s.size:=(by omega);obtain⟨Sx,hSx⟩:∃Sx,s.extract E s.size=Sx:=⟨_,rfl⟩
      have hSxs:Sx.size=s.size - E:=(by rw[<-hSx,ByteArray.size_extract];omega);have HSa:=qH (λw=>z4W Sx w (by omega));clear hah hdi hstr hSxs hext;go_enter func14,ntmps14;go_wp2_with (first
      |(go_at_call 30;(with_reducible refine(HDc.o _).mono ?_);rintro e w1 ⟨rfl,b1⟩;have B1:=qH b1;clear b1)
      |(go_at_call 40;(with_reducible refine(HAd.o _).mono ?_);rintro e w2 ⟨rfl,rfl⟩)
      |(go_at_call 41;(with_reducible refine qcb B1 (HIn.o _ B1.o) ?_);intro w4 B4)
      |(go_at_call 42;(with_reducible refine(HSa.o _).mono ?_);rintro e w5 ⟨rfl,rfl⟩))
      go_ret3;exact⟨rfl,B4.o⟩
    · subst hVe
      subst hc;have hUs:RU<=100000:=(by omega);obtain⟨E,hE⟩:∃E,6+RU=E:=⟨_,rfl⟩
      rw[hE] at hlen hsum
      try rw[hE]
      have z1:IntKind.i64.wrap (6+(RU:Int))=(E:Int):=(by rw[IntWalk.i64_in _ ⟨by omega,by omega⟩];omega);have z2:6+(RU:Int)=(E:Int):=(by omega);have z3:IntKind.i64.wrap ((E:Int)+4)=(E:Int)+4:=IntWalk.i64_in _ ⟨by omega,by omega⟩;have hEs:E<=s.size:=(by omega);obtain⟨Sx,hSx⟩:∃Sx,s.extract E s.size=Sx:=⟨_,rfl⟩
      have hSxs:Sx.size=s.size - E:=(by rw[<-hSx,ByteArray.size_extract];omega);have HSa:=qH (λw=>z1g Sx w (by omega));have hs4:sa Sx 0 4=sa s E 4:=(by rw[<-hSx];exact hext E (by omega));rw[hs4] at HSa;generalize hY:sa s E 4=Y at hsum;simp only[hY] at HSa;have dn:((Y:Int) !=(AX:Int))=true:=(by rw[bne_iff_ne];omega);clear hs4 hY;clear hah hdi hstr hSxs hext hsum;go_enter func14,ntmps14;go_wp2_with (first
      |(go_at_call 30;(with_reducible refine(HDc.o _).mono ?_);rintro e w1 ⟨rfl,b1⟩;have B1:=qH b1;clear b1)
      |(go_at_call 40;(with_reducible refine(HAd.o _).mono ?_);rintro e w2 ⟨rfl,rfl⟩)
      |(go_at_call 41;(with_reducible refine qcb B1 (HIn.o _ B1.o) ?_);intro w4 B4)
      |(go_at_call 42;(with_reducible refine(HSa.o _).mono ?_);rintro e w5 ⟨rfl,rfl⟩)
      |(go_at_call 40;(with_reducible refine(HAX.o _).mono ?_);rintro e w6 ⟨rfl,rfl⟩))
      go_ret3;exact⟨rfl,B4.o⟩
    · subst hVe
      subst hc;have hUs:RU<=100000:=(by omega);obtain⟨E,hE⟩:∃E,6+RU=E:=⟨_,rfl⟩
      rw[hE] at hlen hsum
      try rw[hE]
      have z1:IntKind.i64.wrap (6+(RU:Int))=(E:Int):=(by rw[IntWalk.i64_in _ ⟨by omega,by omega⟩];omega);have z2:6+(RU:Int)=(E:Int):=(by omega);have z3:IntKind.i64.wrap ((E:Int)+4)=(E:Int)+4:=IntWalk.i64_in _ ⟨by omega,by omega⟩;have hEs:E<=s.size:=(by omega);obtain⟨Sx,hSx⟩:∃Sx,s.extract E s.size=Sx:=⟨_,rfl⟩
      have hSxs:Sx.size=s.size - E:=(by rw[<-hSx,ByteArray.size_extract];omega);have HSa:=qH (λw=>z1g Sx w (by omega));have hs4:sa Sx 0 4=sa s E 4:=(by rw[<-hSx];exact hext E (by omega));rw[hs4] at HSa;generalize hY:sa s E 4=Y at hsum;simp only[hY] at HSa;subst hsum;clear hs4 hY;clear hah hdi hstr hSxs hext;go_enter func14,ntmps14;go_wp2_with (first
      |(go_at_call 30;(with_reducible refine(HDc.o _).mono ?_);rintro e w1 ⟨rfl,b1⟩;have B1:=qH b1;clear b1)
      |(go_at_call 40;(with_reducible refine(HAd.o _).mono ?_);rintro e w2 ⟨rfl,rfl⟩)
      |(go_at_call 41;(with_reducible refine qcb B1 (HIn.o _ B1.o) ?_);intro w4 B4)
      |(go_at_call 42;(with_reducible refine(HSa.o _).mono ?_);rintro e w5 ⟨rfl,rfl⟩)
      |(go_at_call 40;(with_reducible refine(HAX.o _).mono ?_);rintro e w6 ⟨rfl,rfl⟩))
      go_ret3;exact⟨rfl,B4.o⟩
   |false=>
    rw[if_neg (by decide)] at hah hdi;rw[hah] at hcs hrle haL hstr;rw[hah,hdi] at HIn;obtain⟨St,hSt⟩:∃St,s.extract 2 s.size=St:=⟨_,rfl⟩
    simp only[hSt] at HIn;rw[hSt] at hstr;rcases hcs with⟨hc,hVe⟩|⟨hc,hlen,hVe⟩|⟨hc,hlen,hsum,hVe⟩|⟨hc,hlen,hsum,hVe⟩
    · subst hVe
      have dn:((RC:Int) !=0)=true:=(by rw[bne_iff_ne];omega);clear hah hdi hstr;go_enter func14,ntmps14;go_wp2_with (first
      |(go_at_call 30;(with_reducible refine(HDc.o _).mono ?_);rintro e w1 ⟨rfl,b1⟩;have B1:=qH b1;clear b1)
      |(go_at_call 41;(with_reducible refine qcb B1 (HIn.o _ B1.o) ?_);intro w4 B4))
      go_ret3;exact⟨rfl,B4.o⟩
    · subst hVe
      subst hc;have hU:=hrle rfl;have hUs:RU<=100000:=(by omega);obtain⟨E,hE⟩:∃E,2+RU=E:=⟨_,rfl⟩
      rw[hE] at hlen
      try rw[hE]
      have z1:IntKind.i64.wrap (2+(RU:Int))=(E:Int):=(by rw[IntWalk.i64_in _ ⟨by omega,by omega⟩];omega);have z2:2+(RU:Int)=(E:Int):=(by omega);have z3:IntKind.i64.wrap ((E:Int)+4)=(E:Int)+4:=IntWalk.i64_in _ ⟨by omega,by omega⟩;have hEs:E<=s.size:=(by omega);obtain⟨Sx,hSx⟩:∃Sx,s.extract E s.size=Sx:=⟨_,rfl⟩
      have hSxs:Sx.size=s.size - E:=(by rw[<-hSx,ByteArray.size_extract];omega);have HSa:=qH (λw=>z4W Sx w (by omega));clear hah hdi hstr hSxs hext;go_enter func14,ntmps14;go_wp2_with (first
      |(go_at_call 30;(with_reducible refine(HDc.o _).mono ?_);rintro e w1 ⟨rfl,b1⟩;have B1:=qH b1;clear b1)
      |(go_at_call 41;(with_reducible refine qcb B1 (HIn.o _ B1.o) ?_);intro w4 B4)
      |(go_at_call 42;(with_reducible refine(HSa.o _).mono ?_);rintro e w5 ⟨rfl,rfl⟩))
      go_ret3;exact⟨rfl,B4.o⟩
    · subst hVe
      subst hc;have hUs:RU<=100000:=(by omega);obtain⟨E,hE⟩:∃E,2+RU=E:=⟨_,rfl⟩
      rw[hE] at hlen hsum
      try rw[hE]
      have z1:IntKind.i64.wrap (2+(RU:Int))=(E:Int):=(by rw[IntWalk.i64_in _ ⟨by omega,by omega⟩];omega);have z2:2+(RU:Int)=(E:Int):=(by omega);have z3:IntKind.i64.wrap ((E:Int)+4)=(E:Int)+4:=IntWalk.i64_in _ ⟨by omega,by omega⟩;have hEs:E<=s.size:=(by omega);obtain⟨Sx,hSx⟩:∃Sx,s.extract E s.size=Sx:=⟨_,rfl⟩
      have hSxs:Sx.size=s.size - E:=(by rw[<-hSx,ByteArray.size_extract];omega);have HSa:=qH (λw=>z1g Sx w (by omega));have hs4:sa Sx 0 4=sa s E 4:=(by rw[<-hSx];exact hext E (by omega));rw[hs4] at HSa;generalize hY:sa s E 4=Y at hsum;simp only[hY] at HSa;have dn:((Y:Int) !=(AX:Int))=true:=(by rw[bne_iff_ne];omega);clear hs4 hY;clear hah hdi hstr hSxs hext hsum;go_enter func14,ntmps14;go_wp2_with (first
      |(go_at_call 30;(with_reducible refine(HDc.o _).mono ?_);rintro e w1 ⟨rfl,b1⟩;have B1:=qH b1;clear b1)
      |(go_at_call 41;(with_reducible refine qcb B1 (HIn.o _ B1.o) ?_);intro w4 B4)
      |(go_at_call 42;(with_reducible refine(HSa.o _).mono ?_);rintro e w5 ⟨rfl,rfl⟩)
      |(go_at_call 40;(with_reducible refine(HAX.o _).mono ?_);rintro e w6 ⟨rfl,rfl⟩))
      go_ret3;exact⟨rfl,B4.o⟩
    · subst hVe
      subst hc;have hUs:RU<=100000:=(by omega);obtain⟨E,hE⟩:∃E,2+RU=E:=⟨_,rfl⟩
      rw[hE] at hlen hsum
      try rw[hE]
      have z1:IntKind.i64.wrap (2+(RU:Int))=(E:Int):=(by rw[IntWalk.i64_in _ ⟨by omega,by omega⟩];omega);have z2:2+(RU:Int)=(E:Int):=(by omega);have z3:IntKind.i64.wrap ((E:Int)+4)=(E:Int)+4:=IntWalk.i64_in _ ⟨by omega,by omega⟩;have hEs:E<=s.size:=(by omega);obtain⟨Sx,hSx⟩:∃Sx,s.extract E s.size=Sx:=⟨_,rfl⟩
      have hSxs:Sx.size=s.size - E:=(by rw[<-hSx,ByteArray.size_extract];omega);have HSa:=qH (λw=>z1g Sx w (by omega));have hs4:sa Sx 0 4=sa s E 4:=(by rw[<-hSx];exact hext E (by omega));rw[hs4] at HSa;generalize hY:sa s E 4=Y at hsum;simp only[hY] at HSa;subst hsum;clear hs4 hY;clear hah hdi hstr hSxs hext;go_enter func14,ntmps14;go_wp2_with (first
      |(go_at_call 30;(with_reducible refine(HDc.o _).mono ?_);rintro e w1 ⟨rfl,b1⟩;have B1:=qH b1;clear b1)
      |(go_at_call 41;(with_reducible refine qcb B1 (HIn.o _ B1.o) ?_);intro w4 B4)
      |(go_at_call 42;(with_reducible refine(HSa.o _).mono ?_);rintro e w5 ⟨rfl,rfl⟩)
      |(go_at_call 40;(with_reducible refine(HAX.o _).mono ?_);rintro e w6 ⟨rfl,rfl⟩))
      go_ret3;exact⟨rfl,B4.o⟩
theorem zaj(d s:ByteArray)(lim:Int)(w:World)(hd:d.size<=32768)(hs:s.size<=100000)(hl:lim<=800000000):
 Calls prog 31 #[.string d,.string s,.int .i64 lim] w λe w'=>e=.returned (.tuple #[.string (rdv d s lim).1,.int .i64 ((rdv d s lim).2.1:Int),.int .i64 ((rdv d s lim).2.2:Int)])/\Below w.heap.size w w':=by
 have HDc:=qH (λw=>z5q s w (by unfold maxLen;omega));have HIn:=qH (λ(w':World)=>zkc (dic d s) (s.extract (ahd s) s.size) lim w' (by unfold dic;split;exact hd;exact qZ) (by rw[ByteArray.size_extract];omega) hl);have HAd:=qH (λw=>(show Calls prog 36 #[.int .u32 1,.string d] w λe w'=>e=.returned (.int .u32 (adl 1 d))/\w=w' from z3Z 1 d w (by decide) (by unfold maxLen;omega)));have HSb:=qH (λw=>z7j (adl 1 d) w (by have:=z4f 1 d;unfold z13 at this;exact this));have hrle:=zfc (D:=dic d s) (t:=s.extract (ahd s) s.size) (lim:=lim) (by rw[ByteArray.size_extract];omega);have hrsz:=z7n (D:=dic d s) (t:=s.extract (ahd s) s.size) (lim:=lim) (by rw[ByteArray.size_extract];omega) (by unfold dic;split;exact hd;exact qZ) hl;rw[ByteArray.size_extract] at hrle;have hcs:=z5p d s (rin (dic d s) (s.extract (ahd s) s.size) lim);have hal:=zfY s;have hilt:=zbS s;have hA:adl 1 d<4294967296:=(by have:=z4f 1 d;unfold z13 at this;exact this);unfold rdv;generalize hr:rin (dic d s) (s.extract (ahd s) s.size) lim=r at hcs hrle hrsz ⊢;simp only[hr] at HIn;clear hr;obtain⟨RL,RU,RC⟩:=r;simp only at hcs hrle hrsz HIn;obtain⟨X,hX⟩:∃X:ByteArray,(⟨RL.toArray⟩:ByteArray)=X:=⟨_,rfl⟩
 rw[hX] at hcs HIn hrsz;have hAX:adl 1 X<4294967296:=(by have:=z4f 1 X;unfold z13 at this;exact this);generalize hV:rdz d s (RL,RU,RC)=V at hcs ⊢;clear hV hX;have HAX:=qH (λw=>(show Calls prog 36 #[.int .u32 1,.string X] w λe w'=>e=.returned (.int .u32 (adl 1 X))/\w=w' from z3Z 1 X w (by decide) hrsz));have HSX:=qH (λw=>z7j (adl 1 X) w hAX);have hsbi:=λ(o n:Nat) h hn=>zir s o n h hn
 obtain⟨A,hAe⟩:∃A,adl 1 d=A:=⟨_,rfl⟩
 obtain⟨AX,hAXe⟩:∃AX,adl 1 X=AX:=⟨_,rfl⟩
 simp only[hAe] at HAd hcs hA HSb;simp only[hAXe] at HAX hcs hAX  HSX;clear hAe hAXe hd hrsz;have hah:ahd s=if(dct s).2.1=true then 6 else 2:=rfl;have hdi:dic d s=if(dct s).2.1=true then d else⟨#[]⟩:=rfl;have hds:dcs s=if(dct s).2.1=true then sb (dct s).1 else⟨#[]⟩:=rfl;obtain⟨q,hq⟩:∃q,dct s=q:=⟨_,rfl⟩
 obtain⟨id,is,ec⟩:=q;rw[hq] at hcs hal hilt hah hdi hds;simp only[hq] at HDc;simp only at hcs hal hilt hah hdi HDc hds;clear hq;generalize hIS:dcs s=IS at hds;simp only[hIS] at HDc;clear hIS;rcases hcs with⟨h0,hVe⟩|⟨h0,h1,h2,hVe⟩|⟨h0,h1,hcs⟩
 · subst hVe
   have dn:((ec:Int) !=0)=true:=(by rw[bne_iff_ne];omega);clear hal hah hdi hds;go_enter func31,ntmps31;go_wp2_with (go_at_call 32;(with_reducible refine(HDc.o _).mono ?_);rintro e w1 ⟨rfl,b1⟩;have B1:=qH b1;clear b1);go_ret3;exact⟨rfl,B1.o⟩
 · subst hVe
   subst h0;subst h1;rw[if_pos rfl] at hds;have hne:sb A≠IS:=λh=>h2 (zf8 hilt hA (hds.symm.trans h.symm))
   obtain⟨SA,hSA⟩:∃SA,sb A=SA:=⟨_,rfl⟩
   rw[hSA] at hne;simp only[hSA] at HSb;have dn2:(IS.toList==SA.toList)=false:=za3 (λh=>hne h.symm);clear hal hah hdi h2 hds hSA hne;go_enter func31,ntmps31
   go_wp2_with (first
    |(go_at_call 32;(with_reducible refine(HDc.o _).mono ?_);rintro e w1 ⟨rfl,b1⟩;have B1:=qH b1;clear b1)
    |(go_at_call 36;(with_reducible refine(HAd.o _).mono ?_);rintro e w2 ⟨rfl,rfl⟩)
    |(go_at_call 35;(with_reducible refine qcb B1 (HSb.o _) ?_);intro w3 B3))
   go_ret3;exact⟨rfl,B3.o⟩
 · subst h0
   obtain⟨haL,h2s⟩:=hal rfl;have hstr:(s.extract (ahd s) s.size).size=s.size - ahd s:=(by rw[ByteArray.size_extract];omega);cases is with
   |true=>
    rw[if_pos rfl] at hah hdi;have h1:=h1 rfl;subst h1;rw[if_pos rfl] at hds;subst hds;rw[hah] at hcs hrle haL hstr;rw[hah,hdi] at HIn;obtain⟨St,hSt⟩:∃St,s.extract 6 s.size=St:=⟨_,rfl⟩
    simp only[hSt] at HIn;rw[hSt] at hstr;obtain⟨SA,hSA⟩:∃SA,sb id=SA:=⟨_,rfl⟩
    simp only[hSA] at HSb HDc ⊢;clear hSA;rcases hcs with⟨hc,hVe⟩|⟨hc,hlen,hVe⟩|⟨hc,hlen,hsum,hVe⟩|⟨hc,hlen,hsum,hVe⟩
    · subst hVe
      have dn:((RC:Int) !=0)=true:=(by rw[bne_iff_ne];omega);clear hah hdi hstr;go_enter func31,ntmps31;go_wp2_with (first
      |(go_at_call 32;(with_reducible refine(HDc.o _).mono ?_);rintro e w1 ⟨rfl,b1⟩;have B1:=qH b1;clear b1)
      |(go_at_call 36;(with_reducible refine(HAd.o _).mono ?_);rintro e w2 ⟨rfl,rfl⟩)
      |(go_at_call 35;(with_reducible refine qcb B1 (HSb.o _) ?_);intro w3 B3)
      |(go_at_call 74;(with_reducible refine qcb B3 (HIn.o _) ?_);intro w4 B4))
      go_ret3;exact⟨rfl,B4.o⟩
    · subst hVe
      subst hc;have hU:=hrle rfl;have hUs:RU<=100000:=(by omega);obtain⟨E,hE⟩:∃E,6+RU=E:=⟨_,rfl⟩
      rw[hE] at hlen
      try rw[hE]
      have z1:IntKind.i64.wrap (6+(RU:Int))=(E:Int):=(by rw[IntWalk.i64_in _ ⟨by omega,by omega⟩];omega);have z2:6+(RU:Int)=(E:Int):=(by omega);have z3:IntKind.i64.wrap ((E:Int)+4)=(E:Int)+4:=IntWalk.i64_in _ ⟨by omega,by omega⟩;have hEs:E<=s.size:=(by omega);have c1:decide ((s.size:Int)<(E:Int)+4)=true:=q9T (by omega);clear hah hdi hstr hsbi;go_enter func31,ntmps31;go_wp2_with (first
      |(go_at_call 32;(with_reducible refine(HDc.o _).mono ?_);rintro e w1 ⟨rfl,b1⟩;have B1:=qH b1;clear b1)
      |(go_at_call 36;(with_reducible refine(HAd.o _).mono ?_);rintro e w2 ⟨rfl,rfl⟩)
      |(go_at_call 35;(with_reducible refine qcb B1 (HSb.o _) ?_);intro w3 B3)
      |(go_at_call 74;(with_reducible refine qcb B3 (HIn.o _) ?_);intro w4 B4))
      go_ret3;exact⟨rfl,B4.o⟩
    · subst hVe
      subst hc;have hUs:RU<=100000:=(by omega);obtain⟨E,hE⟩:∃E,6+RU=E:=⟨_,rfl⟩
      rw[hE] at hlen hsum
      try rw[hE]
      have z1:IntKind.i64.wrap (6+(RU:Int))=(E:Int):=(by rw[IntWalk.i64_in _ ⟨by omega,by omega⟩];omega);have z2:6+(RU:Int)=(E:Int):=(by omega);have z3:IntKind.i64.wrap ((E:Int)+4)=(E:Int)+4:=IntWalk.i64_in _ ⟨by omega,by omega⟩;have c1:decide ((s.size:Int)<(E:Int)+4)=false:=qF (by omega);have z7:E+4<=s.size:=(by omega);have z8:((E:Int)+4).toNat=E+4:=(by omega);have hsb:=hsbi E AX (by omega) hAX;obtain⟨Sx,hSx⟩:∃Sx,s.extract E (E+4)=Sx:=⟨_,rfl⟩
      obtain⟨SX,hSX⟩:∃SX,sb AX=SX:=⟨_,rfl⟩
      rw[hSx,hSX] at hsb;simp only[hSX] at HSX;have hne:Sx≠SX:=λh=>hsum (hsb.1 h)
      have dn:(Sx.toList==SX.toList)=false:=za3 hne;clear hah hdi hstr hsbi hsb hSX hsum hne;go_enter func31,ntmps31;go_wp2_with (first
      |(go_at_call 32;(with_reducible refine(HDc.o _).mono ?_);rintro e w1 ⟨rfl,b1⟩;have B1:=qH b1;clear b1)
      |(go_at_call 36;(with_reducible refine(HAd.o _).mono ?_);rintro e w2 ⟨rfl,rfl⟩)
      |(go_at_call 35;(with_reducible refine qcb B1 (HSb.o _) ?_);intro w3 B3)
      |(go_at_call 74;(with_reducible refine qcb B3 (HIn.o _) ?_);intro w4 B4))
      go_region_with (first
       |(go_at_call 36;(with_reducible refine(HAX.o _).mono ?_);rintro e w6 ⟨rfl,rfl⟩)
       |(go_at_call 35;(with_reducible refine(HSX.o _).mono ?_);rintro e w7 ⟨rfl,b7⟩;have B7:=qH ((B4.o.drew).trans (b7.mono B4.o.size));clear b7))
      all_goals go_wp2_with fail
      all_goals go_ret3
      all_goals exact⟨rfl,by first|exact B7.o|exact B7.o.drew⟩
    · subst hVe
      subst hc;have hUs:RU<=100000:=(by omega);obtain⟨E,hE⟩:∃E,6+RU=E:=⟨_,rfl⟩
      rw[hE] at hlen hsum
      try rw[hE]
      have z1:IntKind.i64.wrap (6+(RU:Int))=(E:Int):=(by rw[IntWalk.i64_in _ ⟨by omega,by omega⟩];omega);have z2:6+(RU:Int)=(E:Int):=(by omega);have z3:IntKind.i64.wrap ((E:Int)+4)=(E:Int)+4:=IntWalk.i64_in _ ⟨by omega,by omega⟩;have c1:decide ((s.size:Int)<(E:Int)+4)=false:=qF (by omega);have z7:E+4<=s.size:=(by omega);have z8:((E:Int)+4).toNat=E+4:=(by omega);have hsb:=hsbi E AX (by omega) hAX;obtain⟨Sx,hSx⟩:∃Sx,s.extract E (E+4)=Sx:=⟨_,rfl⟩
      obtain⟨SX,hSX⟩:∃SX,sb AX=SX:=⟨_,rfl⟩
      rw[hSx,hSX] at hsb;simp only[hSX] at HSX;have heq:Sx=SX:=hsb.2 hsum;rw[heq] at hSx;clear hah hdi hstr hsbi hsb hSX hsum heq;go_enter func31,ntmps31;go_wp2_with (first
      |(go_at_call 32;(with_reducible refine(HDc.o _).mono ?_);rintro e w1 ⟨rfl,b1⟩;have B1:=qH b1;clear b1)
      |(go_at_call 36;(with_reducible refine(HAd.o _).mono ?_);rintro e w2 ⟨rfl,rfl⟩)
      |(go_at_call 35;(with_reducible refine qcb B1 (HSb.o _) ?_);intro w3 B3)
      |(go_at_call 74;(with_reducible refine qcb B3 (HIn.o _) ?_);intro w4 B4))
      go_region_with (first
       |(go_at_call 36;(with_reducible refine(HAX.o _).mono ?_);rintro e w6 ⟨rfl,rfl⟩)
       |(go_at_call 35;(with_reducible refine(HSX.o _).mono ?_);rintro e w7 ⟨rfl,b7⟩;have B7:=qH ((B4.o.drew).trans (b7.mono B4.o.size));clear b7))
      all_goals go_wp2_with fail
      all_goals go_ret3
      all_goals exact⟨rfl,by first|exact B7.o|exact B7.o.drew⟩
   |false=>
    rw[if_neg (by decide)] at hah hdi;rw[if_neg (by decide)] at hds;subst hds;rw[hah] at hcs hrle haL hstr;rw[hah,hdi] at HIn;obtain⟨St,hSt⟩:∃St,s.extract 2 s.size=St:=⟨_,rfl⟩
    simp only[hSt] at HIn;rw[hSt] at hstr;rcases hcs with⟨hc,hVe⟩|⟨hc,hlen,hVe⟩|⟨hc,hlen,hsum,hVe⟩|⟨hc,hlen,hsum,hVe⟩
    · subst hVe
      have dn:((RC:Int) !=0)=true:=(by rw[bne_iff_ne];omega);clear hah hdi hstr;go_enter func31,ntmps31;go_wp2_with (first
      |(go_at_call 32;(with_reducible refine(HDc.o _).mono ?_);rintro e w1 ⟨rfl,b1⟩;have B1:=qH b1;clear b1)
      |(go_at_call 74;(with_reducible refine qcb B1 (HIn.o _) ?_);intro w4 B4))
      go_ret3;exact⟨rfl,B4.o⟩
    · subst hVe
      subst hc;have hU:=hrle rfl;have hUs:RU<=100000:=(by omega);obtain⟨E,hE⟩:∃E,2+RU=E:=⟨_,rfl⟩
      rw[hE] at hlen
      try rw[hE]
      have z1:IntKind.i64.wrap (2+(RU:Int))=(E:Int):=(by rw[IntWalk.i64_in _ ⟨by omega,by omega⟩];omega);have z2:2+(RU:Int)=(E:Int):=(by omega);have z3:IntKind.i64.wrap ((E:Int)+4)=(E:Int)+4:=IntWalk.i64_in _ ⟨by omega,by omega⟩;have hEs:E<=s.size:=(by omega);have c1:decide ((s.size:Int)<(E:Int)+4)=true:=q9T (by omega);clear hah hdi hstr hsbi;go_enter func31,ntmps31;go_wp2_with (first
      |(go_at_call 32;(with_reducible refine(HDc.o _).mono ?_);rintro e w1 ⟨rfl,b1⟩;have B1:=qH b1;clear b1)
      |(go_at_call 74;(with_reducible refine qcb B1 (HIn.o _) ?_);intro w4 B4))
      go_ret3;exact⟨rfl,B4.o⟩
    · subst hVe
      subst hc;have hUs:RU<=100000:=(by omega);obtain⟨E,hE⟩:∃E,2+RU=E:=⟨_,rfl⟩
      rw[hE] at hlen hsum
      try rw[hE]
      have z1:IntKind.i64.wrap (2+(RU:Int))=(E:Int):=(by rw[IntWalk.i64_in _ ⟨by omega,by omega⟩];omega);have z2:2+(RU:Int)=(E:Int):=(by omega);have z3:IntKind.i64.wrap ((E:Int)+4)=(E:Int)+4:=IntWalk.i64_in _ ⟨by omega,by omega⟩;have c1:decide ((s.size:Int)<(E:Int)+4)=false:=qF (by omega);have z7:E+4<=s.size:=(by omega);have z8:((E:Int)+4).toNat=E+4:=(by omega);have hsb:=hsbi E AX (by omega) hAX;obtain⟨Sx,hSx⟩:∃Sx,s.extract E (E+4)=Sx:=⟨_,rfl⟩
      obtain⟨SX,hSX⟩:∃SX,sb AX=SX:=⟨_,rfl⟩
      rw[hSx,hSX] at hsb;simp only[hSX] at HSX;have hne:Sx≠SX:=λh=>hsum (hsb.1 h)
      have dn:(Sx.toList==SX.toList)=false:=za3 hne;clear hah hdi hstr hsbi hsb hSX hsum hne;go_enter func31,ntmps31;go_wp2_with (first
      |(go_at_call 32;(with_reducible refine(HDc.o _).mono ?_);rintro e w1 ⟨rfl,b1⟩;have B1:=qH b1;clear b1)
      |(go_at_call 74;(with_reducible refine qcb B1 (HIn.o _) ?_);intro w4 B4))
      go_region_with (first
       |(go_at_call 36;(with_reducible refine(HAX.o _).mono ?_);rintro e w6 ⟨rfl,rfl⟩)
       |(go_at_call 35;(with_reducible refine(HSX.o _).mono ?_);rintro e w7 ⟨rfl,b7⟩;have B7:=qH ((B4.o.drew).trans (b7.mono B4.o.size));clear b7))
      all_goals go_wp2_with fail
      all_goals go_ret3
      all_goals exact⟨rfl,by first|exact B7.o|exact B7.o.drew⟩
    · subst hVe
      subst hc;have hUs:RU<=100000:=(by omega);obtain⟨E,hE⟩:∃E,2+RU=E:=⟨_,rfl⟩
      rw[hE] at hlen hsum
      try rw[hE]
      have z1:IntKind.i64.wrap (2+(RU:Int))=(E:Int):=(by rw[IntWalk.i64_in _ ⟨by omega,by omega⟩];omega);have z2:2+(RU:Int)=(E:Int):=(by omega);have z3:IntKind.i64.wrap ((E:Int)+4)=(E:Int)+4:=IntWalk.i64_in _ ⟨by omega,by omega⟩;have c1:decide ((s.size:Int)<(E:Int)+4)=false:=qF (by omega);have z7:E+4<=s.size:=(by omega);have z8:((E:Int)+4).toNat=E+4:=(by omega);have hsb:=hsbi E AX (by omega) hAX;obtain⟨Sx,hSx⟩:∃Sx,s.extract E (E+4)=Sx:=⟨_,rfl⟩
      obtain⟨SX,hSX⟩:∃SX,sb AX=SX:=⟨_,rfl⟩
      rw[hSx,hSX] at hsb;simp only[hSX] at HSX;have heq:Sx=SX:=hsb.2 hsum;rw[heq] at hSx;clear hah hdi hstr hsbi hsb hSX hsum heq;go_enter func31,ntmps31;go_wp2_with (first
      |(go_at_call 32;(with_reducible refine(HDc.o _).mono ?_);rintro e w1 ⟨rfl,b1⟩;have B1:=qH b1;clear b1)
      |(go_at_call 74;(with_reducible refine qcb B1 (HIn.o _) ?_);intro w4 B4))
      go_region_with (first
       |(go_at_call 36;(with_reducible refine(HAX.o _).mono ?_);rintro e w6 ⟨rfl,rfl⟩)
       |(go_at_call 35;(with_reducible refine(HSX.o _).mono ?_);rintro e w7 ⟨rfl,b7⟩;have B7:=qH ((B4.o.drew).trans (b7.mono B4.o.size));clear b7))
      all_goals go_wp2_with fail
      all_goals go_ret3
      all_goals exact⟨rfl,by first|exact B7.o|exact B7.o.drew⟩
