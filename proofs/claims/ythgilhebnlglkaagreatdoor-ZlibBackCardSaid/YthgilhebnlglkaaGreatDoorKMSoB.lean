import Derived.Test.YthgilhebnlglkaaGreatDoorKMMathT
import Derived.BigQuiet
import Derived.Deep.RegionHeld3
set_option linter.all false
set_option maxHeartbeats 0
set_option maxRecDepth 1000000
open Go.Proofs.Tryz
namespace Go.Proofs.YthgilhebnlglkaaGreatDoor
section
open Go.RowKit M
def One(b:Nat):Nat->Prop:=λj=>j=b
theorem Lfs.swap{w:World}{b n i j:Nat}{e:Nat->Nat×Nat}(h:Lfs w b n e):
 Lfs ((((((w.setCell ⟨b,i*3,none⟩ (.int .u64 (e j).1)).setCell ⟨b,i*3+1,none⟩ (.int .i64 (e j).2)).setCell ⟨b,i*3+2,none⟩ (.pointer none)).setCell ⟨b,j*3,none⟩ (.int .u64 (e i).1)).setCell ⟨b,j*3+1,none⟩ (.int .i64 (e i).2)).setCell ⟨b,j*3+2,none⟩ (.pointer none)) b n (λt=>if t=j then e i else if t=i then e j else e t):=
 ((h.set i (e j).1 (e j).2).set j (e i).1 (e i).2).congr λt _=>rfl
theorem jQ{e:Nat->Nat×Nat}{i j:Nat}(h:i≠j)(t:Nat):(if t=j then e i else if t=i then e j else e t)=swp e i j t:=by
 unfold swp;by_cases a:t=j
 · rw[A7 a,A0 (by omega),A7 a]
 · rw[A0 a]
   by_cases b:t=i
   · rw[A7 b,A7 b]
   · rw[A0 b,A0 b,A0 a]
theorem yM{b:Nat}{w w':World}(h:Kept (One b) w w')(l e m a f g:Nat)(d j n i k c:Value):
 Kept (One b) w ((((((w'.setCell ⟨b,l,none⟩ d).setCell ⟨b,e,none⟩ j).setCell ⟨b,m,none⟩ n).setCell ⟨b,a,none⟩ i).setCell ⟨b,f,none⟩ k).setCell ⟨b,g,none⟩ c):=by
 have o:=h.setCell ⟨b,l,none⟩ (.inl rfl) d;have q:=o.setCell ⟨b,e,none⟩ (.inl rfl) j;have p:=q.setCell ⟨b,m,none⟩ (.inl rfl) n;have r:=p.setCell ⟨b,a,none⟩ (.inl rfl) i;have s:=r.setCell ⟨b,f,none⟩ (.inl rfl) k;exact s.setCell ⟨b,g,none⟩ (.inl rfl) c
theorem lM(b n c a d k:Nat)(m:Value)(e:Nat->Nat×Nat)(W:World)(hn:n<=400)(hd:a+k<=d)(G:d+k<=n)(H:Lfs W b n e):
 Calls prog 346 #[.slice (some ⟨b,0,none⟩) n c,.int .i64 a,.int .i64 d,.int .i64 k,m] W λx w'=>x=.returned (.tuple #[])/\Lfs w' b n (swr e a d k)/\Kept (One b) W w':=by
 have J:=qH H;clear H;go_enter func346,ntmps346;go_wp2_with fail
 go_loopw [10] (λi wr=> ∃t:Nat,t<=k/\i=.int .i64 t/\Lfs wr b n (swr e a d t)/\Kept (One b) W wr) (λi _=>k - (intOf i).toNat)
 case atStart=>exact⟨0,qZ,rfl,J.o.congr (λi _=>(xi e a d i).symm),Kept.refl _ _⟩
 case round=>
  obtain⟨t,V,rfl,g,r⟩:=hrel;by_cases K:t<k
  · obtain⟨x,v⟩:∃x,a+t=x:=⟨_,rfl⟩
    obtain⟨y,w⟩:∃y,d+t=y:=⟨_,rfl⟩
    obtain⟨A,M,T⟩:=g.cells (show x<n by omega);obtain⟨N,B,X⟩:=g.cells (show y<n by omega);have fx:=g.frozen (x*3);have E:=g.frozen (x*3+1);have O:=g.frozen (x*3+2);have fy:=g.frozen (y*3);have L:=g.frozen (y*3+1);have F:=g.frozen (y*3+2);have U:IntKind.i64.wrap ((a:Int)+(t:Int))=(x:Int):=(by rw[IntWalk.i64_in _ (by omega)];omega);have Z:IntKind.i64.wrap ((d:Int)+(t:Int))=(y:Int):=(by rw[IntWalk.i64_in _ (by omega)];omega);have hs:=(g.swap (i:=x) (j:=y)).congr (e':=swr e a d (t+1)) (λi _=>(jQ (by omega) i).trans (by rw[<-v,<-w];exact xh e (by omega) i));obtain⟨Y,p⟩:∃u,(swr e a d t x).1=u:=⟨_,rfl⟩
    obtain⟨S,l⟩:∃u,(swr e a d t x).2=u:=⟨_,rfl⟩
    obtain⟨Q,q⟩:∃u,(swr e a d t y).1=u:=⟨_,rfl⟩
    obtain⟨R,h⟩:∃u,(swr e a d t y).2=u:=⟨_,rfl⟩
    rw[p] at A hs;rw[l] at M hs;rw[q] at N hs;rw[h] at B hs;obtain⟨I,s⟩:=qh2 hs r;have P:x<n:=(by omega);have z:y<n:=(by omega);have D:x<y:=(by omega);clear v w hs r g p l q h;go_wp2_with fail
    go_region
    go_wp2_with fail;go_roundw
    case rel=>exact⟨t+1,by omega,by go_num,I.o.drew,(yM s.o _ _ _ _ _ _ _ _ _ _ _ _).drew⟩
    case measure=>simp[intOf];omega
  · obtain rfl:t=k:=by omega
    obtain⟨C,s⟩:=qh2 g r;clear g r;go_wp2_with fail;go_end0;exact⟨rfl,C.o,s.o⟩
theorem ti(b n c a m d:Nat)(k:Value)(e:Nat->Nat×Nat)(W:World)(hn:n<=400)(h1:a<m)(h2:m<d)(h3:d<=n)(H:Lfs W b n e):
 Calls prog 345 #[.slice (some ⟨b,0,none⟩) n c,.int .i64 a,.int .i64 m,.int .i64 d,k] W λx w'=>x=.returned (.tuple #[])/\Lfs w' b n (rot e a m d)/\Kept (One b) W w':=by
 obtain⟨HW,N⟩:=qh2 H hn;clear H;have U:(m:Int) - (a:Int)=((m - a:Nat):Int):=(by omega);have P:(d:Int) - (m:Int)=((d - m:Nat):Int):=(by omega);obtain⟨i0,E⟩:∃x,m - a=x:=⟨_,rfl⟩
 obtain⟨j0,C⟩:∃x,d - m=x:=⟨_,rfl⟩
 rw[E] at U;rw[C] at P;have Q:i0<=m:=(by omega);have X:m+j0<=n:=(by omega);have V:0<i0:=(by omega);have S:0<j0:=by omega
 have HE:Hd (∀t,rot e (m - i0) m (m+j0) t=rot e a m d t):=qH (by
  intro t;rw[show m - i0=a by omega,show m+j0=d by omega])
 clear E C;go_enter func345,ntmps345;go_wp2_with fail;clear U P
 go_loopw [10,11] (λx y wr=> ∃ (i j:Nat) (r:Nat->Nat×Nat),x=.int .i64 i/\y=.int .i64 j/\0<i/\0<j/\i<=m/\m+j<=n/\Lfs wr b n r/\Hd (∀t,rot r (m - i) m (m+j) t=rot e a m d t)/\Kept (One b) W wr) (λx y _=>(intOf x).toNat+(intOf y).toNat)
 case atStart=>exact⟨i0,j0,e,rfl,rfl,V,S,Q,X,HW.o,HE,Kept.refl _ _⟩
 case round=>
  obtain⟨i,j,r,rfl,rfl,Z,p2,G,I,R,J,T⟩:=hrel;obtain⟨L,M⟩:=qh2 R T;clear R T Q X V S h1 h2 h3;have v:IntKind.i64.wrap ((m:Int) - (i:Int))=((m - i:Nat):Int):=(by rw[IntWalk.i64_in _ (by omega)];omega);have q:(m:Int) - (i:Int)=((m - i:Nat):Int):=(by omega);by_cases c1:j<i
  · have O:(i:Int) - (j:Int)=((i - j:Nat):Int):=by omega
    have Y:((i:Int) !=(j:Int))=true:=(by rw[AQ];omega);obtain⟨x,g⟩:∃x,m - i=x:=⟨_,rfl⟩
    obtain⟨z,l⟩:∃x,i - j=x:=⟨_,rfl⟩
    rw[g] at v q;rw[l] at O;obtain⟨B,w⟩:=qh2 g l;have p:x+j<=m:=(by omega);clear g l;go_wp2_with fail;refine(lM b n c x m j k r _ N.o p I L.o).mono ?_;rintro e w' ⟨rfl,u,s⟩;have F:=qH u;have A:=qH (M.o.trans s (λ_ h=> .inl h));clear u s;go_wp2_with fail;go_roundw
    case rel=>
     have g:=B.o;have l:=w.o;refine⟨z,j,_,rfl,rfl,by omega,p2,by omega,I,F.o,qH (λt=> ?_),A.o⟩;rw[<-l,<-g];exact(xz r G c1 t).trans (J.o t)
    case measure=>have l:=w.o;simp[intOf];omega
  · by_cases c2:i<j
    · have O:(j:Int) - (i:Int)=((j - i:Nat):Int):=by omega
      have q2:(m:Int)+(j:Int) - (i:Int)=((m+j - i:Nat):Int):=(by omega);have Y:((i:Int) !=(j:Int))=true:=(by rw[AQ];omega);obtain⟨x,g⟩:∃x,m - i=x:=⟨_,rfl⟩
      obtain⟨y,D⟩:∃x,m+j - i=x:=⟨_,rfl⟩
      obtain⟨z,l⟩:∃x,j - i=x:=⟨_,rfl⟩
      rw[g] at v q;rw[D] at q2;rw[l] at O;obtain⟨B,HY,w⟩:=qh3 g D l;have p:x+i<=y:=(by omega);have K:y+i<=n:=(by omega);clear g D l;go_wp2_with fail;refine(lM b n c x y i k r _ N.o p K L.o).mono ?_;rintro e w' ⟨rfl,u,s⟩;have F:=qH u;have A:=qH (M.o.trans s (λ_ h=> .inl h));clear u s;go_wp2_with fail;go_roundw
      case rel=>
       have g:=B.o;have D:=HY.o;have l:=w.o;refine⟨i,z,_,rfl,rfl,Z,by omega,G,by omega,F.o,qH (λt=> ?_),A.o⟩;rw[<-l,<-g,<-D];exact(th r G c2 t).trans (J.o t)
      case measure=>have l:=w.o;simp[intOf];omega
    · obtain rfl:i=j:=by omega
      obtain⟨x,g⟩:∃x,m - i=x:=⟨_,rfl⟩
      rw[g] at v q;have B:=qH g;have p:x+i<=m:=(by omega);clear g;go_wp2_with fail;refine(lM b n c x m i k r _ N.o p I L.o).mono ?_;rintro e w' ⟨rfl,u,s⟩;have g:=B.o;have F:=qH (u.congr (e':=rot e a m d) (λt _=>by rw[<-g];exact(FZ r G t).trans (J.o t)));have A:=qH (M.o.trans s (λ_ h=> .inl h));clear u s g;go_wp2_with fail;go_end0;exact⟨rfl,F.o,A.o⟩
theorem fN{x y:Nat}(h:x<y):decide (cmv x y<0)=true:=q9T (by unfold cmv;rw[A7 h];omega)
theorem fM{x y:Nat}(h:¬x<y):decide (cmv x y<0)=false:=qF (by unfold cmv;rw[A0 h];split<;>omega)
theorem oM{e b:Nat->Nat×Nat}{a i d j:Nat}(hi:a<i)(m:i<d)(k:Ord b a i)(c:bT e b a (min i d))(l:∀t,a<=t->t<i->(b t).1=(b i).1->(b t).2<(b i).2)
 (f:a<=j) (g:j<=i) (h:∀t,j<=t->t<i->(b i).1<(b t).1) (hs:j=a\/¬(b i).1<(b (j - 1)).1):Ord (mvd b j i) a (i+1)/\bT e (mvd b j i) a (min (i+1) d):=by
 refine⟨mg k l f g h (by omega),?_⟩;rw[AS (by omega)] at c ⊢;exact(c.wide qR (by omega)).trans (j7 b f g (by omega))
theorem uJ(b n c a d:Nat)(e:Nat->Nat×Nat)(W:World)(hn:n<=400)(a6:a<=d)(hd:d<=n)(hs:∀i j,a<=i->i<j->j<d->(e i).2<(e j).2)(H:Lfs W b n e):
 Calls prog 343 #[.slice (some ⟨b,0,none⟩) n c,.int .i64 a,.int .i64 d,.func (.func 320) #[] #[]] W λx w'=>x=.returned (.tuple #[])/\∃e',Lfs w' b n e'/\Ord e' a d/\bT e e' a d/\Kept (One b) W w':=by
 obtain⟨HW,HS⟩:=qh2 H hs;clear H hs;go_enter func343,ntmps343;go_wp2_with fail
 go_loopw [8] (λv wr=> ∃ (i:Nat) (h:Nat->Nat×Nat),v=.int .i64 i/\a<i/\(i<=d\/i=a+1)/\Lfs wr b n h/\Hd (Ord h a i/\bT e h a (min i d)/\Kept (One b) W wr)) (λv _=>401 - (intOf v).toNat)
 case atStart=>exact⟨a+1,e,by go_num,by omega,.inr rfl,HW.o,qH ⟨λi j h1 h2 h3=>by omega,bT.refl _ _ _,Kept.refl _ _⟩⟩
 case round=>
  obtain⟨i,h,rfl,p1,p2,s,D⟩:=hrel;by_cases c1:i<d
  · have HL:=qH s
    clear s p2;have HR:Hd (∀t,a<=t->t<i->(h t).1=(h i).1->(h t).2<(h i).2):=qH (λt g1 O _=>by
     obtain⟨ho,hm,hk⟩:=D.o;rw[AS (by omega)] at hm;obtain⟨j,j1,j2,q⟩:=hm.fro t g1 O;rw[q,hm.o i (.inr qR)];exact HS.o j i j1 j2 c1)
    go_wp2_with fail
    go_loopw [9] (λv ws=> ∃ (j:Nat),v=.int .i64 j/\a<=j/\j<=i/\Lfs ws b n (mvd h j i)/\Hd ((∀t,j<=t->t<i->(h i).1<(h t).1)/\Kept (One b) W ws)) (λv _=>(intOf v).toNat)
    case atStart=>exact⟨i,rfl,by omega,qR,HL.o.congr (λt _=>(ov h i t).symm),qH ⟨λt g1 O=>by omega,D.o.2.2⟩⟩
    case round=>
     obtain⟨j,rfl,q1,Z,s,N⟩:=hrel;by_cases c2:a<j
     · obtain⟨z,hz⟩:∃z,j - 1=z:=⟨_,rfl⟩
       obtain⟨A,C,F⟩:=s.cells (show j<n by omega);obtain⟨y,B,E⟩:=s.cells (show z<n by omega);have l:mvd h j i j=h i:=(by unfold mvd;rw[A7 rfl]);have k:mvd h j i z=h z:=(by unfold mvd;rw[A0 (by omega),A0 (by omega)]);rw[l] at A C;rw[k] at y B;obtain⟨V,L⟩:∃u,(h i).1=u:=⟨_,rfl⟩
       obtain⟨u2,I⟩:∃u,(h i).2=u:=⟨_,rfl⟩
       obtain⟨R,J⟩:∃u,(h z).1=u:=⟨_,rfl⟩
       obtain⟨v2,M⟩:∃u,(h z).2=u:=⟨_,rfl⟩
       rw[L] at A;rw[I] at C;rw[J] at y;rw[M] at B;have r:=qH (And.intro L (And.intro I (And.intro J M)));obtain⟨X,m⟩:=qh2 hz s;have a8:z<n:=(by omega);have a5:j<n:=(by omega);have a4:z<j:=(by omega);have ez:IntKind.i64.wrap ((j:Int) - 1)=(z:Int):=(by rw[IntWalk.i64_in _ (by omega)];omega);have a7:(j:Int) - 1=(z:Int):=(by omega);have a9:IntKind.i64.wrap (z:Int)=(z:Int):=IntWalk.i64_in _ (by omega);have a3:((z:Int)).toNat=z:=(by omega);have a1:((j:Int)).toNat=j:=(by omega);obtain⟨t,P⟩:∃t,cmv V R=t:=⟨_,rfl⟩
       have cc:=λw=>less_any V u2 R v2 w
       rw[P] at cc;have CC:=qH cc;clear cc;have O:decide (a<j)=true:=q9T c2;clear s l k L I J M hz;by_cases Y:V<R
       · have G:=fN Y
         rw[P] at G;clear P;go_wp2_with fail
         go_region_held3 (λw'=>w'.cell? ⟨b,j*3,none⟩=some (.int .u64 V)/\w'.cell? ⟨b,j*3+1,none⟩=some (.int .i64 u2)/\w'.cell? ⟨b,j*3+2,none⟩=some (.pointer none)/\w'.cell? ⟨b,z*3,none⟩=some (.int .u64 R)/\w'.cell? ⟨b,z*3+1,none⟩=some (.int .i64 v2)/\w'.cell? ⟨b,z*3+2,none⟩=some (.pointer none)) (first|exact⟨k1,k2,k3,k4,k5,k6⟩|exact⟨A,C,F,y,B,E⟩) (first
          |((with_reducible refine(CC.o _).mono ?_);rintro x Q ⟨rfl,b3⟩;have k1:=(b3.cell (qB A)).trans A;have k2:=(b3.cell (qB C)).trans C;have k3:=(b3.cell (qB F)).trans F;have k4:=(b3.cell (qB y)).trans y;have k5:=(b3.cell (qB B)).trans B;have k6:=(b3.cell (qB E)).trans E;have K:=qH b3;clear b3))
         have p:Lfs Q b n (mvd h j i):=m.o.drew.below K.o m.o.lt;have K3:Hd (Kept (One b) W Q):=qH ((N.o.2.drew).trans (Kept.of_below K.o) (λ_ g=>g.elim));have gx:=p.frozen (j*3);have a0:=p.frozen (j*3+1);have ab:=p.frozen (j*3+2);have gy:=p.frozen (z*3);have aa:=p.frozen (z*3+1);have a2:=p.frozen (z*3+2);have hs:=(p.swap (i:=j) (j:=z)).congr (e':=mvd h z i) (λt _=>(jQ (by omega) t).trans (by rw[<-X.o];exact j6 h (by omega) Z t));have l:mvd h j i j=h i:=(by unfold mvd;rw[A7 rfl]);have k:mvd h j i z=h z:=(by unfold mvd;rw[A0 (by omega),A0 (by omega)]);rw[l,k,r.o.1,r.o.2.1,r.o.2.2.1,r.o.2.2.2] at hs;obtain⟨U,S⟩:=qh2 hs p;clear hs l k p A C F y B E m K;go_wp2_with fail
         go_region
         go_wp2_with fail;go_roundw
         case rel=>exact⟨z,rfl,by omega,by omega,U.o.drew,qH ⟨λt g1 O=>by
          by_cases q:t=z
          · rw[q,r.o.1,r.o.2.2.1];exact Y
          · exact N.o.1 t (by have:=X.o;omega) O,(yM K3.o _ _ _ _ _ _ _ _ _ _ _ _).drew⟩⟩
         case measure=>simp[intOf];omega
       · have G:=fM Y
         rw[P] at G;clear P;go_wp2_with fail
         go_region_held3 (λw'=>w'.cell? ⟨b,j*3,none⟩=some (.int .u64 V)/\w'.cell? ⟨b,j*3+1,none⟩=some (.int .i64 u2)/\w'.cell? ⟨b,j*3+2,none⟩=some (.pointer none)/\w'.cell? ⟨b,z*3,none⟩=some (.int .u64 R)/\w'.cell? ⟨b,z*3+1,none⟩=some (.int .i64 v2)/\w'.cell? ⟨b,z*3+2,none⟩=some (.pointer none)) (first|exact⟨k1,k2,k3,k4,k5,k6⟩|exact⟨A,C,F,y,B,E⟩) (first
          |((with_reducible refine(CC.o _).mono ?_);rintro x Q ⟨rfl,b3⟩;have k1:=(b3.cell (qB A)).trans A;have k2:=(b3.cell (qB C)).trans C;have k3:=(b3.cell (qB F)).trans F;have k4:=(b3.cell (qB y)).trans y;have k5:=(b3.cell (qB B)).trans B;have k6:=(b3.cell (qB E)).trans E;have K:=qH b3;clear b3))
         have p:Lfs Q b n (mvd h j i):=m.o.drew.below K.o m.o.lt;have K3:Hd (Kept (One b) W Q):=qH ((N.o.2.drew).trans (Kept.of_below K.o) (λ_ g=>g.elim));have hs:=(p.swap (i:=j) (j:=z)).congr (e':=mvd h z i) (λt _=>(jQ (by omega) t).trans (by rw[<-X.o];exact j6 h (by omega) Z t));have l:mvd h j i j=h i:=(by unfold mvd;rw[A7 rfl]);have k:mvd h j i z=h z:=(by unfold mvd;rw[A0 (by omega),A0 (by omega)]);rw[l,k,r.o.1,r.o.2.1,r.o.2.2.1,r.o.2.2.2] at hs;obtain⟨U,S⟩:=qh2 hs p;clear hs l k p A C F y B E m K;have T:=qH (oM p1 c1 D.o.1 D.o.2.1 HR.o q1 Z N.o.1 (.inr (by rw[X.o,r.o.1,r.o.2.2.1];exact Y)));go_wp2_with fail;go_roundw
         case rel=>exact⟨i+1,_,by go_num,by omega,.inl (by omega),S.o,qH ⟨T.o.1,T.o.2,K3.o⟩⟩
         case measure=>simp[intOf];omega
     · have O:decide (a<j)=false:=qF c2
       have m:=qH s;have T:=qH (oM p1 c1 D.o.1 D.o.2.1 HR.o q1 Z N.o.1 (.inl (by omega)));clear s;go_wp2_with fail
       go_quiet (fail)
       go_wp2_with fail;go_roundw
       case rel=>exact⟨i+1,_,by go_num,by omega,.inl (by omega),m.o.drew,qH ⟨T.o.1,T.o.2,N.o.2.drewN _⟩⟩
       case measure=>simp[intOf];omega
  · have HL:=qH s
    have HD:Hd (Ord h a d/\bT e h a d):=qH (by
     obtain⟨h1,h2,h3⟩:=D.o;rw[Bw (by omega)] at h2;exact⟨h1.sub qR (by omega),h2⟩)
    clear s p2;go_wp2_with fail;go_end0;exact⟨rfl,h,HL.o,HD.o.1,HD.o.2,D.o.2.2⟩
theorem dQ(i j s h:Nat)(a:i+j=s)(b:s/2=h)(c:s<=1000):(i:Int)+(j:Int)=(s:Int)/\(s:Int) /2=(h:Int):=by omega
theorem FA(b n c a m d:Nat)(e:Nat->Nat×Nat)(W:World)(hn:n<=400)(a2:a<m)(a3:m<d)(hd:d<=n)(ol:Ord e a m)(or:Ord e m d)(hr:Rel e a m d)(H:Lfs W b n e)(h1:m=a+1):
 Calls prog 344 #[.slice (some ⟨b,0,none⟩) n c,.int .i64 a,.int .i64 m,.int .i64 d,.func (.func 320) #[] #[]] W λx w'=>x=.returned (.tuple #[])/\∃e',Lfs w' b n e'/\Ord e' a d/\bT e e' a d/\Kept (One b) W w':=by
 have d1:(m:Int) - (a:Int)=1:=(by omega);have HW:=qH H;have OR:=qH (show Ord e (a+1) d by rw[<-h1];exact or);have HR:=qH (show ∀t,a+1<=t->t<d->(e a).1=(e t).1->(e a).2<(e t).2 from λt g1 g2=>hr a t qR a2 (by omega) g2);have HM:=qH h1;clear H ol or hr h1;go_enter func344,ntmps344;go_wp2_with fail
 go_loopw [10,11] (λx y wr=> ∃ (i j:Nat),x=.int .i64 i/\y=.int .i64 j/\m<=i/\i<=j/\j<=d/\Hd ((i=m\/(e (i - 1)).1<(e a).1)/\(j=d\/(e a).1<=(e j).1))/\Lfs wr b n e/\Kept (One b) W wr) (λx y _=>(intOf y).toNat - (intOf x).toNat)
 case atStart=>exact⟨m,d,rfl,rfl,qR,by omega,qR,qH ⟨.inl rfl,.inl rfl⟩,HW.o,Kept.refl _ _⟩
 case round=>
  obtain⟨i,j,rfl,rfl,q1,q2,q3,HI,F,M⟩:=hrel;by_cases c1:i<j
  · obtain⟨s,hs⟩:∃s,i+j=s:=⟨_,rfl⟩
    obtain⟨h,hh⟩:∃h,s/2=h:=⟨_,rfl⟩
    obtain⟨e1,e2⟩:=dQ i j s h hs hh (by omega);have e3:IntKind.i64.wrap (h:Int)=(h:Int):=IntWalk.i64_in _ (by omega);have e4:IntKind.i64.wrap (a:Int)=(a:Int):=IntWalk.i64_in _ (by omega);have e5:((h:Int)).toNat=h:=(by omega);have e6:((a:Int)).toNat=a:=(by omega);have a5:s<=1000:=(by omega);have g1:i<=h:=(by omega);have g2:h<j:=(by omega);clear hs hh;obtain⟨B,D,I⟩:=(F).cells (show h<n by omega);obtain⟨A,C,E⟩:=(F).cells (show a<n by omega);obtain⟨P,r⟩:∃x0,(e h).1=x0:=⟨_,rfl⟩
    obtain⟨u2,p⟩:∃x0,(e h).2=x0:=⟨_,rfl⟩
    obtain⟨N,q⟩:∃x0,(e a).1=x0:=⟨_,rfl⟩
    obtain⟨v2,u⟩:∃x0,(e a).2=x0:=⟨_,rfl⟩
    rw[r] at B;rw[p] at D;rw[q] at A;rw[u] at C;have HU:=qH (And.intro r (And.intro p (And.intro q u)));obtain⟨G,X⟩:=qh2 F M;obtain⟨t,R⟩:∃t,cmv P N=t:=⟨_,rfl⟩
    have cc:=λw=>less_any P u2 N v2 w
    rw[R] at cc;have CC:=qH cc;have a0:h<n:=(by omega);have a1:a<n:=(by omega);clear cc r p q u F M;by_cases O:P<N
    · have J:=fN O
      rw[R] at J;clear R;go_wp2_with fail
      go_region_held3 (λw'=>w'.cell? ⟨b,h*3,none⟩=some (.int .u64 P)/\w'.cell? ⟨b,h*3+1,none⟩=some (.int .i64 u2)/\w'.cell? ⟨b,h*3+2,none⟩=some (.pointer none)/\w'.cell? ⟨b,a*3,none⟩=some (.int .u64 N)/\w'.cell? ⟨b,a*3+1,none⟩=some (.int .i64 v2)/\w'.cell? ⟨b,a*3+2,none⟩=some (.pointer none)) (first|exact⟨S,Y,Z,U,V,T⟩|exact⟨B,D,I,A,C,E⟩) (first
       |((with_reducible refine(CC.o _).mono ?_);rintro x w3 ⟨rfl,b3⟩;have S:=(b3.cell (qB B)).trans B;have Y:=(b3.cell (qB D)).trans D;have Z:=(b3.cell (qB I)).trans I;have U:=(b3.cell (qB A)).trans A;have V:=(b3.cell (qB C)).trans C;have T:=(b3.cell (qB E)).trans E;have K:=qH b3;clear b3))
      have L3:=qH (G.o.drew.below K.o G.o.lt);have K3:Hd (Kept (One b) W w3):=qH ((X.o.drew).trans (Kept.of_below K.o) (λ_ g=>g.elim));clear B D I A C E S Y Z U V T K;have C3:=qH (show(e h).1<(e a).1 by rw[HU.o.1,HU.o.2.2.1];exact O);clear O;go_wp2_with fail;go_roundw
      case rel=>exact⟨h+1,j,by go_num,rfl,by omega,by omega,q3,qH ⟨.inr (by rw[Bo];exact C3.o),HI.o.2⟩,L3.o,K3.o⟩
      case measure=>simp[intOf];omega
    · have J:=fM O
      rw[R] at J;clear R;go_wp2_with fail
      go_region_held3 (λw'=>w'.cell? ⟨b,h*3,none⟩=some (.int .u64 P)/\w'.cell? ⟨b,h*3+1,none⟩=some (.int .i64 u2)/\w'.cell? ⟨b,h*3+2,none⟩=some (.pointer none)/\w'.cell? ⟨b,a*3,none⟩=some (.int .u64 N)/\w'.cell? ⟨b,a*3+1,none⟩=some (.int .i64 v2)/\w'.cell? ⟨b,a*3+2,none⟩=some (.pointer none)) (first|exact⟨S,Y,Z,U,V,T⟩|exact⟨B,D,I,A,C,E⟩) (first
       |((with_reducible refine(CC.o _).mono ?_);rintro x w3 ⟨rfl,b3⟩;have S:=(b3.cell (qB B)).trans B;have Y:=(b3.cell (qB D)).trans D;have Z:=(b3.cell (qB I)).trans I;have U:=(b3.cell (qB A)).trans A;have V:=(b3.cell (qB C)).trans C;have T:=(b3.cell (qB E)).trans E;have K:=qH b3;clear b3))
      have L3:=qH (G.o.drew.below K.o G.o.lt);have K3:Hd (Kept (One b) W w3):=qH ((X.o.drew).trans (Kept.of_below K.o) (λ_ g=>g.elim));clear B D I A C E S Y Z U V T K;have C3:=qH (show ¬(e h).1<(e a).1 by rw[HU.o.1,HU.o.2.2.1];exact O);clear O;go_wp2_with fail;go_roundw
      case rel=>exact⟨i,h,rfl,rfl,by omega,by omega,by omega,qH ⟨HI.o.1,.inr (CA C3.o)⟩,L3.o,K3.o⟩
      case measure=>simp[intOf];omega
  · obtain rfl:i=j:=by omega
    obtain⟨HL,HK⟩:=qh2 F M;clear F M;go_wp2_with fail
    go_loopw [13] (λv ws=> ∃ (k:Nat),v=.int .i64 k/\a<=k/\k<=i - 1/\Lfs ws b n (mvu e a k)/\Kept (One b) W ws) (λv _=>i - (intOf v).toNat)
    case atStart=>exact⟨a,rfl,qR,by omega,HL.o.congr (λt _=>(yi e a t).symm),HK.o⟩
    case round=>
     obtain⟨k,rfl,r1,r2,F,M⟩:=hrel;obtain⟨l,Q⟩:=qh2 F M;clear F M;have w1:(i:Int) - 1=((i - 1:Nat):Int):=(by omega);obtain⟨z,L⟩:∃z,i - 1=z:=⟨_,rfl⟩
     rw[L] at w1 r2;have HZ:=qH L;by_cases c2:k<z
     · obtain⟨y,hy⟩:∃y,k+1=y:=⟨_,rfl⟩
       have w2:IntKind.i64.wrap ((k:Int)+1)=(y:Int):=(by rw[IntWalk.i64_in _ (by omega)];omega);have w3:(k:Int)+1=(y:Int):=(by omega);have w4:IntKind.i64.wrap (y:Int)=(y:Int):=IntWalk.i64_in _ (by omega);obtain⟨B,D,I⟩:=l.o.cells (show k<n by omega);obtain⟨A,C,E⟩:=l.o.cells (show y<n by omega);have fx:=l.o.frozen (k*3);have a8:=l.o.frozen (k*3+1);have a4:=l.o.frozen (k*3+2);have fy:=l.o.frozen (y*3);have a7:=l.o.frozen (y*3+1);have a6:=l.o.frozen (y*3+2);have hs:=(l.o.swap (i:=k) (j:=y)).congr (e':=mvu e a y) (λt _=>(jQ (by omega) t).trans (by rw[<-hy];exact yh e r1 t));obtain⟨P,r⟩:∃x0,(mvu e a k k).1=x0:=⟨_,rfl⟩
       obtain⟨u2,p⟩:∃x0,(mvu e a k k).2=x0:=⟨_,rfl⟩
       obtain⟨N,q⟩:∃x0,(mvu e a k y).1=x0:=⟨_,rfl⟩
       obtain⟨v2,u⟩:∃x0,(mvu e a k y).2=x0:=⟨_,rfl⟩
       rw[r] at B hs;rw[p] at D hs;rw[q] at A hs;rw[u] at C hs;have HS:=qH hs;have a0:k<n:=(by omega);have a1:y<n:=(by omega);clear hs r p q u;clear hy L;go_wp2_with fail
       go_region
       go_wp2_with fail;go_roundw
       case rel=>exact⟨y,rfl,by omega,by have L:=HZ.o;omega,HS.o.drew,(yM Q.o _ _ _ _ _ _ _ _ _ _ _ _).drew⟩
       case measure=>have L:=HZ.o;simp[intOf];omega
     · obtain rfl:k=z:=by omega
       have HO:Hd (Ord (mvu e a k) a d/\bT e (mvu e a k) a d):=qH (by
        refine⟨?_,yj e qR r1 (by omega)⟩;rw[<-L];exact Gs OR.o HR.o (by omega) q3 (by have:=HI.o.1;omega) HI.o.2)
       clear L;go_wp2_with fail;refine bodyPost_ret (results_none rfl _ _ _) rfl ?_
       exact⟨rfl,_,l.o,HO.o.1,HO.o.2,Q.o⟩
theorem Fz(b n c a m d:Nat)(e:Nat->Nat×Nat)(W:World)(hn:n<=400)(a7:a<m)(a1:m<d)(hd:d<=n)(ol:Ord e a m)(or:Ord e m d)(hr:Rel e a m d)(H:Lfs W b n e)(h1:m≠a+1)(h2:d=m+1):
 Calls prog 344 #[.slice (some ⟨b,0,none⟩) n c,.int .i64 a,.int .i64 m,.int .i64 d,.func (.func 320) #[] #[]] W λx w'=>x=.returned (.tuple #[])/\∃e',Lfs w' b n e'/\Ord e' a d/\bT e e' a d/\Kept (One b) W w':=by
 have d1:((m:Int) - (a:Int)==1)=false:=(by rw[qN];omega);have d2:(d:Int) - (m:Int)=1:=(by omega);obtain⟨HW,OL⟩:=qh2 H ol;have HR:=qH (show ∀t,a<=t->t<m->(e t).1=(e m).1->(e t).2<(e m).2 from λt g1 g2=>hr t m g1 g2 qR a1);have HM:=qH h2;clear H ol or hr h1 h2;go_enter func344,ntmps344;go_wp2_with fail
 go_loopw [14,15] (λx y wr=> ∃ (i j:Nat),x=.int .i64 i/\y=.int .i64 j/\a<=i/\i<=j/\j<=m/\Hd ((i=a\/¬(e m).1<(e (i - 1)).1)/\(j=m\/(e m).1<(e j).1))/\Lfs wr b n e/\Kept (One b) W wr) (λx y _=>(intOf y).toNat - (intOf x).toNat)
 case atStart=>exact⟨a,m,rfl,rfl,qR,by omega,qR,qH ⟨.inl rfl,.inl rfl⟩,HW.o,Kept.refl _ _⟩
 case round=>
  obtain⟨i,j,rfl,rfl,q1,q2,q3,HI,F,L⟩:=hrel;by_cases c1:i<j
  · obtain⟨s,hs⟩:∃s,i+j=s:=⟨_,rfl⟩
    obtain⟨h,hh⟩:∃h,s/2=h:=⟨_,rfl⟩
    obtain⟨e1,e2⟩:=dQ i j s h hs hh (by omega);have e3:IntKind.i64.wrap (h:Int)=(h:Int):=IntWalk.i64_in _ (by omega);have e4:IntKind.i64.wrap (m:Int)=(m:Int):=IntWalk.i64_in _ (by omega);have e5:((h:Int)).toNat=h:=(by omega);have e6:((m:Int)).toNat=m:=(by omega);have a6:s<=1000:=(by omega);have g1:i<=h:=(by omega);have g2:h<j:=(by omega);clear hs hh;obtain⟨B,D,I⟩:=(F).cells (show m<n by omega);obtain⟨A,C,E⟩:=(F).cells (show h<n by omega);obtain⟨O,u⟩:∃x0,(e m).1=x0:=⟨_,rfl⟩
    obtain⟨Z,p⟩:∃x0,(e m).2=x0:=⟨_,rfl⟩
    obtain⟨M,q⟩:∃x0,(e h).1=x0:=⟨_,rfl⟩
    obtain⟨v2,z⟩:∃x0,(e h).2=x0:=⟨_,rfl⟩
    rw[u] at B;rw[p] at D;rw[q] at A;rw[z] at C;have HU:=qH (And.intro u (And.intro p (And.intro q z)));obtain⟨G,V⟩:=qh2 F L;obtain⟨t,Q⟩:∃t,cmv O M=t:=⟨_,rfl⟩
    have cc:=λw=>less_any O Z M v2 w
    rw[Q] at cc;have CC:=qH cc;have a2:m<n:=(by omega);have a3:h<n:=(by omega);clear cc u p q z F L;by_cases N:O<M
    · have J:=fN N
      rw[Q] at J;clear Q;go_wp2_with fail
      go_region_held3 (λw'=>w'.cell? ⟨b,m*3,none⟩=some (.int .u64 O)/\w'.cell? ⟨b,m*3+1,none⟩=some (.int .i64 Z)/\w'.cell? ⟨b,m*3+2,none⟩=some (.pointer none)/\w'.cell? ⟨b,h*3,none⟩=some (.int .u64 M)/\w'.cell? ⟨b,h*3+1,none⟩=some (.int .i64 v2)/\w'.cell? ⟨b,h*3+2,none⟩=some (.pointer none)) (first|exact⟨R,X,Y,T,U,S⟩|exact⟨B,D,I,A,C,E⟩) (first
       |((with_reducible refine(CC.o _).mono ?_);rintro x w3 ⟨rfl,b3⟩;have R:=(b3.cell (qB B)).trans B;have X:=(b3.cell (qB D)).trans D;have Y:=(b3.cell (qB I)).trans I;have T:=(b3.cell (qB A)).trans A;have U:=(b3.cell (qB C)).trans C;have S:=(b3.cell (qB E)).trans E;have K:=qH b3;clear b3))
      have L3:=qH (G.o.drew.below K.o G.o.lt);have K3:Hd (Kept (One b) W w3):=qH ((V.o.drew).trans (Kept.of_below K.o) (λ_ g=>g.elim));clear B D I A C E R X Y T U S K;have C3:=qH (show(e m).1<(e h).1 by rw[HU.o.1,HU.o.2.2.1];exact N);clear N;go_wp2_with fail;go_roundw
      case rel=>exact⟨i,h,rfl,rfl,by omega,by omega,by omega,qH ⟨HI.o.1,.inr C3.o⟩,L3.o,K3.o⟩
      case measure=>simp[intOf];omega
    · have J:=fM N
      rw[Q] at J;clear Q;go_wp2_with fail
      go_region_held3 (λw'=>w'.cell? ⟨b,m*3,none⟩=some (.int .u64 O)/\w'.cell? ⟨b,m*3+1,none⟩=some (.int .i64 Z)/\w'.cell? ⟨b,m*3+2,none⟩=some (.pointer none)/\w'.cell? ⟨b,h*3,none⟩=some (.int .u64 M)/\w'.cell? ⟨b,h*3+1,none⟩=some (.int .i64 v2)/\w'.cell? ⟨b,h*3+2,none⟩=some (.pointer none)) (first|exact⟨R,X,Y,T,U,S⟩|exact⟨B,D,I,A,C,E⟩) (first
       |((with_reducible refine(CC.o _).mono ?_);rintro x w3 ⟨rfl,b3⟩;have R:=(b3.cell (qB B)).trans B;have X:=(b3.cell (qB D)).trans D;have Y:=(b3.cell (qB I)).trans I;have T:=(b3.cell (qB A)).trans A;have U:=(b3.cell (qB C)).trans C;have S:=(b3.cell (qB E)).trans E;have K:=qH b3;clear b3))
      have L3:=qH (G.o.drew.below K.o G.o.lt);have K3:Hd (Kept (One b) W w3):=qH ((V.o.drew).trans (Kept.of_below K.o) (λ_ g=>g.elim));clear B D I A C E R X Y T U S K;have C3:=qH (show ¬(e m).1<(e h).1 by rw[HU.o.1,HU.o.2.2.1];exact N);clear N;go_wp2_with fail;go_roundw
      case rel=>exact⟨h+1,j,by go_num,rfl,by omega,by omega,q3,qH ⟨.inr (by rw[Bo];exact C3.o),HI.o.2⟩,L3.o,K3.o⟩
      case measure=>simp[intOf];omega
  · obtain rfl:i=j:=by omega
    obtain⟨HL,HK⟩:=qh2 F L;clear F L;go_wp2_with fail
    go_loopw [17] (λv ws=> ∃ (k:Nat),v=.int .i64 k/\i<=k/\k<=m/\Lfs ws b n (mvd e k m)/\Kept (One b) W ws) (λv _=>(intOf v).toNat)
    case atStart=>exact⟨m,rfl,q3,qR,HL.o.congr (λt _=>(ov e m t).symm),HK.o⟩
    case round=>
     obtain⟨k,rfl,r1,r2,F,L⟩:=hrel;obtain⟨l,P⟩:=qh2 F L;clear F L;by_cases c2:i<k
     · obtain⟨y,hy⟩:∃y,k - 1=y:=⟨_,rfl⟩
       have w2:IntKind.i64.wrap ((k:Int) - 1)=(y:Int):=(by rw[IntWalk.i64_in _ (by omega)];omega);have w3:(k:Int) - 1=(y:Int):=(by omega);have w4:IntKind.i64.wrap (y:Int)=(y:Int):=IntWalk.i64_in _ (by omega);have a5:y<k:=(by omega);have a0:i<=y:=(by omega);obtain⟨B,D,I⟩:=l.o.cells (show k<n by omega);obtain⟨A,C,E⟩:=l.o.cells (show y<n by omega);have fx:=l.o.frozen (k*3);have aa:=l.o.frozen (k*3+1);have a4:=l.o.frozen (k*3+2);have fy:=l.o.frozen (y*3);have a9:=l.o.frozen (y*3+1);have a8:=l.o.frozen (y*3+2);have hs:=(l.o.swap (i:=k) (j:=y)).congr (e':=mvd e y m) (λt _=>(jQ (by omega) t).trans (by rw[<-hy];exact j6 e (by omega) r2 t));obtain⟨O,u⟩:∃x0,(mvd e k m k).1=x0:=⟨_,rfl⟩
       obtain⟨Z,p⟩:∃x0,(mvd e k m k).2=x0:=⟨_,rfl⟩
       obtain⟨M,q⟩:∃x0,(mvd e k m y).1=x0:=⟨_,rfl⟩
       obtain⟨v2,z⟩:∃x0,(mvd e k m y).2=x0:=⟨_,rfl⟩
       rw[u] at B hs;rw[p] at D hs;rw[q] at A hs;rw[z] at C hs;have HS:=qH hs;have a2:k<n:=(by omega);have a3:y<n:=(by omega);clear hs u p q z;clear hy;go_wp2_with fail
       go_region
       go_wp2_with fail;go_roundw
       case rel=>exact⟨y,rfl,a0,by omega,HS.o.drew,(yM P.o _ _ _ _ _ _ _ _ _ _ _ _).drew⟩
       case measure=>simp[intOf];omega
     · obtain rfl:k=i:=by omega
       have HO:Hd (Ord (mvd e k m) a d/\bT e (mvd e k m) a d):=qH (by
        have hm:=HM.o;refine⟨?_,j7 e q1 r2 (by omega)⟩;rw[hm];refine mg OL.o HR.o q1 q3 (λt g1 g2=> ?_) (by have:=HI.o.1;omega);rcases HI.o.2 with g|g
        · omega
        · rcases OL.o.le q1 g1 g2 with r|r
          · rw[<-r];exact g
          · unfold lx at r;omega)
       go_wp2_with fail;refine bodyPost_ret (results_none rfl _ _ _) rfl ?_
       exact⟨rfl,_,l.o,HO.o.1,HO.o.2,P.o⟩
theorem FD(b n c a m d:Nat)(e:Nat->Nat×Nat)(W:World)(hn:n<=400)(ad:a<m)(a7:m<d)(hd:d<=n)(ol:Ord e a m)(or:Ord e m d)(hr:Rel e a m d)(H:Lfs W b n e)(h1:m≠a+1)(h2:d≠m+1)(mid:Nat)(A:(a+d) /2=mid)(hc:mid<m)
 (IH:∀ (a' m' M:Nat) (e':Nat->Nat×Nat) (W':World),M - a'<d - a->a'<m'->m'<M->M<=n->Ord e' a' m'->Ord e' m' M->Rel e' a' m' M->Lfs W' b n e'->Calls prog 344 #[.slice (some ⟨b,0,none⟩) n c,.int .i64 a',.int .i64 m',.int .i64 M,.func (.func 320) #[] #[]] W' λx w'=>x=.returned (.tuple #[])/\∃e2,Lfs w' b n e2/\Ord e2 a' M/\bT e' e2 a' M/\Kept (One b) W' w'):
 Calls prog 344 #[.slice (some ⟨b,0,none⟩) n c,.int .i64 a,.int .i64 m,.int .i64 d,.func (.func 320) #[] #[]] W λx w'=>x=.returned (.tuple #[])/\∃e',Lfs w' b n e'/\Ord e' a d/\bT e e' a d/\Kept (One b) W w':=by
 have d1:((m:Int) - (a:Int)==1)=false:=(by rw[qN];omega);have d2:((d:Int) - (m:Int)==1)=false:=(by rw[qN];omega);generalize hs:a+d=s at A;obtain⟨e1,e2⟩:=dQ a d s mid hs A (by omega);obtain⟨L,k⟩:∃s,mid+m=s:=⟨_,rfl⟩
 have e3:(mid:Int)+(m:Int)=(L:Int):=(by omega);obtain⟨p,hp⟩:∃s,L - 1=s:=⟨_,rfl⟩
 have e4:(L:Int) - 1=(p:Int):=(by omega);obtain⟨s0,G⟩:∃s,L - d=s:=⟨_,rfl⟩
 have e5:(L:Int) - (d:Int)=(s0:Int):=(by omega);obtain⟨HW,OL,OR,HR,HN,a0⟩:=qh6 H ol or hr hn IH;have b0:s<=1000:=(by omega);have b1:L<=1000:=(by omega);have b3:a<=mid:=(by omega);have b4:mid<d:=(by omega);have b6:a<=s0:=(by omega);have b7:s0<=mid:=(by omega);have a6:=qH G;clear G;obtain⟨a2,HP⟩:=qh2 k hp;clear H ol or hr h1 h2 IH A hs k hp;go_enter func344,ntmps344;go_wp2_with fail
 go_loopw [20,21] (λx y wr=> ∃ (i j:Nat),x=.int .i64 i/\y=.int .i64 j/\s0<=i/\i<=j/\j<=mid/\Hd ((i=s0\/¬(e (p - (i - 1))).1<(e (i - 1)).1)/\(j=mid\/(e (p - j)).1<(e j).1))/\Lfs wr b n e/\Kept (One b) W wr) (λx y _=>(intOf y).toNat - (intOf x).toNat)
 case atStart=>exact⟨s0,mid,rfl,rfl,qR,by omega,qR,qH ⟨.inl rfl,.inl rfl⟩,HW.o,Kept.refl _ _⟩
 case round=>
  obtain⟨i,j,rfl,rfl,q1,q2,q3,HI,hl,hk⟩:=hrel;by_cases c1:i<j
  · obtain⟨z,hz⟩:∃s,i+j=s:=⟨_,rfl⟩
    obtain⟨h,hh⟩:∃h,z/2=h:=⟨_,rfl⟩
    obtain⟨e6,e7⟩:=dQ i j z h hz hh (by omega);obtain⟨u,hu⟩:∃u,p - h=u:=⟨_,rfl⟩
    have k:=a2.o;have hp:=HP.o;have g1:i<=h:=(by omega);have g2:h<j:=(by omega);have e8:IntKind.i64.wrap ((p:Int) - (h:Int))=(u:Int):=(by rw[IntWalk.i64_in _ (by omega)];omega);have e9:(p:Int) - (h:Int)=(u:Int):=(by omega);have ab:IntKind.i64.wrap (h:Int)=(h:Int):=IntWalk.i64_in _ (by omega);have ac:IntKind.i64.wrap (u:Int)=(u:Int):=IntWalk.i64_in _ (by omega);have af:((h:Int)).toNat=h:=(by omega);have aa:((u:Int)).toNat=u:=(by omega);have b8:z<=1000:=(by omega);have a9:u<n:=(by have:=a6.o;omega);have a8:h<n:=(by omega);have a1:=qH hu;clear hz hh k hp hu;obtain⟨C,I,Q⟩:=(hl).cells (show u<n by omega);obtain⟨B,E,N⟩:=(hl).cells (show h<n by omega);obtain⟨u1,Y⟩:∃x0,(e u).1=x0:=⟨_,rfl⟩
    obtain⟨u2,T⟩:∃x0,(e u).2=x0:=⟨_,rfl⟩
    obtain⟨v1,V⟩:∃x0,(e h).1=x0:=⟨_,rfl⟩
    obtain⟨v2,Z⟩:∃x0,(e h).2=x0:=⟨_,rfl⟩
    rw[Y] at C;rw[T] at I;rw[V] at B;rw[Z] at E;have HU:=qH (And.intro Y (And.intro T (And.intro V Z)));obtain⟨J,a5⟩:=qh2 hl hk;obtain⟨t,ht⟩:∃t,cmv u1 v1=t:=⟨_,rfl⟩
    have cc:=λw=>less_any u1 u2 v1 v2 w
    rw[ht] at cc;have CC:=qH cc;clear cc Y T V Z hl hk;by_cases c3:u1<v1
    · have R:=fN c3
      rw[ht] at R;clear ht;go_wp2_with fail
      go_region_held3 (λw'=>w'.cell? ⟨b,u*3,none⟩=some (.int .u64 u1)/\w'.cell? ⟨b,u*3+1,none⟩=some (.int .i64 u2)/\w'.cell? ⟨b,u*3+2,none⟩=some (.pointer none)/\w'.cell? ⟨b,h*3,none⟩=some (.int .u64 v1)/\w'.cell? ⟨b,h*3+1,none⟩=some (.int .i64 v2)/\w'.cell? ⟨b,h*3+2,none⟩=some (.pointer none)) (first|exact⟨k1,k2,k3,O,P,F⟩|exact⟨C,I,Q,B,E,N⟩) (first
       |((with_reducible refine(CC.o _).mono ?_);rintro x w3 ⟨rfl,b3⟩;have k1:=(b3.cell (qB C)).trans C;have k2:=(b3.cell (qB I)).trans I;have k3:=(b3.cell (qB Q)).trans Q;have O:=(b3.cell (qB B)).trans B;have P:=(b3.cell (qB E)).trans E;have F:=(b3.cell (qB N)).trans N;have X:=qH b3;clear b3))
      have L3:=qH (J.o.drew.below X.o J.o.lt);have K3:Hd (Kept (One b) W w3):=qH ((a5.o.drew).trans (Kept.of_below X.o) (λ_ g=>g.elim));clear C I Q B E N k1 k2 k3 O P F X;have C3:=qH (show(e u).1<(e h).1 by rw[HU.o.1,HU.o.2.2.1];exact c3);clear c3;go_wp2_with fail;go_roundw
      case rel=>exact⟨i,h,rfl,rfl,by omega,by omega,by omega,qH ⟨HI.o.1,.inr (by rw[a1.o];exact C3.o)⟩,L3.o,K3.o⟩
      case measure=>simp[intOf];omega
    · have R:=fM c3
      rw[ht] at R;clear ht;go_wp2_with fail
      go_region_held3 (λw'=>w'.cell? ⟨b,u*3,none⟩=some (.int .u64 u1)/\w'.cell? ⟨b,u*3+1,none⟩=some (.int .i64 u2)/\w'.cell? ⟨b,u*3+2,none⟩=some (.pointer none)/\w'.cell? ⟨b,h*3,none⟩=some (.int .u64 v1)/\w'.cell? ⟨b,h*3+1,none⟩=some (.int .i64 v2)/\w'.cell? ⟨b,h*3+2,none⟩=some (.pointer none)) (first|exact⟨k1,k2,k3,O,P,F⟩|exact⟨C,I,Q,B,E,N⟩) (first
       |((with_reducible refine(CC.o _).mono ?_);rintro x w3 ⟨rfl,b3⟩;have k1:=(b3.cell (qB C)).trans C;have k2:=(b3.cell (qB I)).trans I;have k3:=(b3.cell (qB Q)).trans Q;have O:=(b3.cell (qB B)).trans B;have P:=(b3.cell (qB E)).trans E;have F:=(b3.cell (qB N)).trans N;have X:=qH b3;clear b3))
      have L3:=qH (J.o.drew.below X.o J.o.lt);have K3:Hd (Kept (One b) W w3):=qH ((a5.o.drew).trans (Kept.of_below X.o) (λ_ g=>g.elim));clear C I Q B E N k1 k2 k3 O P F X;have C3:=qH (show ¬(e u).1<(e h).1 by rw[HU.o.1,HU.o.2.2.1];exact c3);clear c3;go_wp2_with fail;go_roundw
      case rel=>exact⟨h+1,j,by go_num,rfl,by omega,by omega,q3,qH ⟨.inr (by rw[Bo,a1.o];exact C3.o),HI.o.2⟩,L3.o,K3.o⟩
      case measure=>simp[intOf];omega
  · obtain rfl:i=j:=by omega
    obtain⟨HL,HK⟩:=qh2 hl hk;clear hl hk;obtain⟨f,hf⟩:∃f,L - i=f:=⟨_,rfl⟩
    have k:=a2.o;have hp:=HP.o;have G:=a6.o;have w1:(L:Int) - (i:Int)=(f:Int):=(by omega);have b9:i<=m:=(by omega);have U:m<=f:=(by omega);have S:f<=d:=(by omega);have ae:mid<=f:=(by omega);have a3:a<=i:=by omega
    have CU:=qH (vw (s:=i) (f:=f) (d:=mid) OL.o OR.o HR.o (by omega) b9 U S (by omega)
     (by
      rcases HI.o.1 with g|g
      · exact .inr (.inl (by omega))
      · by_cases q:i=a
        · exact .inl q
        · refine .inr (.inr ?_)
          rw[show p - (i - 1)=f by omega] at g;omega)
     (by
      rcases HI.o.2 with g|g
      · exact .inl (by omega)
      · refine .inr (.inr ?_)
        rw[show p - i=f - 1 by omega] at g;exact g))
    have SR:=qH (nV e b9 U);have a4:=qH (show i=m\/m=f->∀t,e t=rot e i m f t from λq t=>(nW e b9 U q t).symm);clear hf k hp G;obtain⟨E1,l⟩:∃E1,rot e i m f=E1:=⟨_,rfl⟩
    have v:=qH (show Ord E1 a i/\Ord E1 i mid/\Rel E1 a i mid by rw[<-l];exact CU.o.1);have D:=qH (show Ord E1 mid f/\Ord E1 f d/\Rel E1 mid f d by rw[<-l];exact CU.o.2.1);have CX:=qH (show ∀x y,a<=x->x<mid->mid<=y->y<d->lx (E1 x) (E1 y) by rw[<-l];exact CU.o.2.2);rw[l] at SR a4;rcases(show(i<m/\m<f)\/(i<m/\¬m<f)\/¬i<m by omega) with⟨g1,g2⟩|⟨g1,g2⟩|g1
    all_goals
     try (have L4:=qH (HL.o.congr (λt _=>a4.o (by omega) t));have K4:=qH HK.o)
     rcases(show(a<i/\i<mid)\/(a<i/\¬i<mid)\/¬a<i by omega) with⟨g3,g4⟩|⟨g3,g4⟩|g3
     all_goals
      try (have q:i=a\/i=mid:=by omega
           have O2:Hd (Ord E1 a mid):=qH (by
            rcases q with q|q
            · have:=v.o.2.1;rw[q] at this;exact this
            · have:=v.o.1;rw[q] at this;exact this)
           have S2:=qH (bT.refl E1 a mid);have K:=qH D.o;clear q)
      rcases(show(mid<f/\f<d)\/(mid<f/\¬f<d)\/¬mid<f by omega) with⟨g5,g6⟩|⟨g5,g6⟩|g5
      all_goals
       go_wp2_with (first
        |(go_at_call 345;(with_reducible refine(ti b n c i m f _ e _ HN.o g1 g2 (by omega) HL.o).mono ?_);rintro x w4 ⟨rfl,l4,O⟩;rw[l] at l4;have L4:=qH l4;have K4:=qH (HK.o.trans O (λ_ h=> .inl h));clear l4 O)
        |(go_at_call 344;(with_reducible refine(a0.o a i mid _ _ (by omega) g3 g4 (by omega) v.o.1 v.o.2.1 v.o.2.2 L4.o).mono ?_);rintro x w5 ⟨rfl,e5,l5,o5,s5,P⟩;have L5:=qH l5;have K5:=qH (K4.o.trans P (λ_ h=> .inl h));obtain⟨S2,O2⟩:=qh2 s5 o5
          have K:=qH (show Ord e5 mid f/\Ord e5 f d/\Rel e5 mid f d from⟨D.o.1.congr (λt q r=>s5.o t (by omega)),D.o.2.1.congr (λt q r=>s5.o t (by omega)),λx y r1 r2 r3 r4=>by rw[s5.o x (by omega),s5.o y (by omega)];exact D.o.2.2 x y r1 r2 r3 r4⟩);clear l5 o5 s5 P)
        |(go_at_call 344;(first|with_reducible refine(a0.o mid f d _ _ (by omega) g5 g6 hd (K.o.1) (K.o.2.1) (K.o.2.2) L5.o).mono ?_|with_reducible refine(a0.o mid f d _ _ (by omega) g5 g6 hd (K.o.1) (K.o.2.1) (K.o.2.2) L4.o).mono ?_);rintro x w6 ⟨rfl,e6,l6,o6,s6,F⟩;have L6:=qH l6
          have K6:=(by first|exact qH (K5.o.trans F (λ_ h=> .inl h))|exact qH (K4.o.trans F (λ_ h=> .inl h)):Hd (Kept (One b) W w6));have F6:=qH (show Ord e6 a d/\bT e e6 a d from⟨eR CX.o S2.o s6 O2.o o6,((SR.o.wide a3 S).trans (S2.o.wide qR (by omega))).trans (s6.wide (by omega) qR)⟩);clear l6 o6 s6 F))
       go_end0
       first
        |exact⟨rfl,_,L6.o,F6.o.1,F6.o.2,K6.o⟩
        |(have O6:=(by
         have q:f=d\/f=mid:=(by omega);rcases q with q|q
         · have:=K.o.1;rw[q] at this;exact this
         · have:=K.o.2.1;rw[q] at this;exact this:Ord _ mid d)
          have o6:=eR CX.o S2.o (bT.refl _ mid d) O2.o O6;have s6:=(SR.o.wide a3 S).trans (S2.o.wide qR (by omega))
          first|exact⟨rfl,_,L5.o,o6,s6,K5.o⟩|exact⟨rfl,_,L4.o,o6,s6,K4.o⟩)
theorem FC(b n c a m d:Nat)(e:Nat->Nat×Nat)(W:World)(hn:n<=400)(ab:a<m)(a5:m<d)(hd:d<=n)(ol:Ord e a m)(or:Ord e m d)(hr:Rel e a m d)(H:Lfs W b n e)(h1:m≠a+1)(h2:d≠m+1)(mid:Nat)(A:(a+d) /2=mid)(hc:m<=mid)
 (IH:∀ (a' m' K:Nat) (e':Nat->Nat×Nat) (W':World),K - a'<d - a->a'<m'->m'<K->K<=n->Ord e' a' m'->Ord e' m' K->Rel e' a' m' K->Lfs W' b n e'->Calls prog 344 #[.slice (some ⟨b,0,none⟩) n c,.int .i64 a',.int .i64 m',.int .i64 K,.func (.func 320) #[] #[]] W' λx w'=>x=.returned (.tuple #[])/\∃e2,Lfs w' b n e2/\Ord e2 a' K/\bT e' e2 a' K/\Kept (One b) W' w'):
 Calls prog 344 #[.slice (some ⟨b,0,none⟩) n c,.int .i64 a,.int .i64 m,.int .i64 d,.func (.func 320) #[] #[]] W λx w'=>x=.returned (.tuple #[])/\∃e',Lfs w' b n e'/\Ord e' a d/\bT e e' a d/\Kept (One b) W w':=by
 have d1:((m:Int) - (a:Int)==1)=false:=(by rw[qN];omega);have d2:((d:Int) - (m:Int)==1)=false:=(by rw[qN];omega);generalize hs:a+d=s at A;obtain⟨e1,e2⟩:=dQ a d s mid hs A (by omega);obtain⟨Z,k⟩:∃s,mid+m=s:=⟨_,rfl⟩
 have e3:(mid:Int)+(m:Int)=(Z:Int):=(by omega);obtain⟨p,hp⟩:∃s,Z - 1=s:=⟨_,rfl⟩
 have e4:(Z:Int) - 1=(p:Int):=(by omega);have dq:decide (mid<m)=false:=qF (by omega);obtain⟨HW,OL,OR,HR,HN,Y⟩:=qh6 H ol or hr hn IH;have b0:s<=1000:=(by omega);have b1:Z<=1000:=(by omega);have b3:a<=mid:=(by omega);have b4:mid<d:=(by omega);obtain⟨a1,HP⟩:=qh2 k hp;clear H ol or hr h1 h2 IH A hs k hp;go_enter func344,ntmps344;go_wp2_with fail
 go_loopw [20,21] (λx y wr=> ∃ (i j:Nat),x=.int .i64 i/\y=.int .i64 j/\a<=i/\i<=j/\j<=m/\Hd ((i=a\/¬(e (p - (i - 1))).1<(e (i - 1)).1)/\(j=m\/(e (p - j)).1<(e j).1))/\Lfs wr b n e/\Kept (One b) W wr) (λx y _=>(intOf y).toNat - (intOf x).toNat)
 case atStart=>exact⟨a,m,rfl,rfl,qR,by omega,qR,qH ⟨.inl rfl,.inl rfl⟩,HW.o,Kept.refl _ _⟩
 case round=>
  obtain⟨i,j,rfl,rfl,q1,q2,q3,HI,hl,hk⟩:=hrel;by_cases c1:i<j
  · obtain⟨z,hz⟩:∃s,i+j=s:=⟨_,rfl⟩
    obtain⟨h,hh⟩:∃h,z/2=h:=⟨_,rfl⟩
    obtain⟨e6,e7⟩:=dQ i j z h hz hh (by omega);obtain⟨u,hu⟩:∃u,p - h=u:=⟨_,rfl⟩
    have k:=a1.o;have hp:=HP.o;have g1:i<=h:=(by omega);have g2:h<j:=(by omega);have e8:IntKind.i64.wrap ((p:Int) - (h:Int))=(u:Int):=(by rw[IntWalk.i64_in _ (by omega)];omega);have e9:(p:Int) - (h:Int)=(u:Int):=(by omega);have a9:IntKind.i64.wrap (h:Int)=(h:Int):=IntWalk.i64_in _ (by omega);have aa:IntKind.i64.wrap (u:Int)=(u:Int):=IntWalk.i64_in _ (by omega);have ae:((h:Int)).toNat=h:=(by omega);have a8:((u:Int)).toNat=u:=(by omega);have b8:z<=1000:=(by omega);have a7:u<n:=(by omega);have a6:h<n:=(by omega);have a0:=qH hu;clear hz hh k hp hu;obtain⟨C,G,O⟩:=(hl).cells (show u<n by omega);obtain⟨B,E,L⟩:=(hl).cells (show h<n by omega);obtain⟨u1,V⟩:∃x0,(e u).1=x0:=⟨_,rfl⟩
    obtain⟨u2,R⟩:∃x0,(e u).2=x0:=⟨_,rfl⟩
    obtain⟨v1,T⟩:∃x0,(e h).1=x0:=⟨_,rfl⟩
    obtain⟨v2,X⟩:∃x0,(e h).2=x0:=⟨_,rfl⟩
    rw[V] at C;rw[R] at G;rw[T] at B;rw[X] at E;have HU:=qH (And.intro V (And.intro R (And.intro T X)));obtain⟨I,a4⟩:=qh2 hl hk;obtain⟨t,ht⟩:∃t,cmv u1 v1=t:=⟨_,rfl⟩
    have cc:=λw=>less_any u1 u2 v1 v2 w
    rw[ht] at cc;have CC:=qH cc;clear cc V R T X hl hk;by_cases c3:u1<v1
    · have P:=fN c3
      rw[ht] at P;clear ht;go_wp2_with fail
      go_region_held3 (λw'=>w'.cell? ⟨b,u*3,none⟩=some (.int .u64 u1)/\w'.cell? ⟨b,u*3+1,none⟩=some (.int .i64 u2)/\w'.cell? ⟨b,u*3+2,none⟩=some (.pointer none)/\w'.cell? ⟨b,h*3,none⟩=some (.int .u64 v1)/\w'.cell? ⟨b,h*3+1,none⟩=some (.int .i64 v2)/\w'.cell? ⟨b,h*3+2,none⟩=some (.pointer none)) (first|exact⟨k1,k2,k3,M,N,F⟩|exact⟨C,G,O,B,E,L⟩) (first
       |((with_reducible refine(CC.o _).mono ?_);rintro x w3 ⟨rfl,b3⟩;have k1:=(b3.cell (qB C)).trans C;have k2:=(b3.cell (qB G)).trans G;have k3:=(b3.cell (qB O)).trans O;have M:=(b3.cell (qB B)).trans B;have N:=(b3.cell (qB E)).trans E;have F:=(b3.cell (qB L)).trans L;have U:=qH b3;clear b3))
      have L3:=qH (I.o.drew.below U.o I.o.lt);have K3:Hd (Kept (One b) W w3):=qH ((a4.o.drew).trans (Kept.of_below U.o) (λ_ g=>g.elim));clear C G O B E L k1 k2 k3 M N F U;have C3:=qH (show(e u).1<(e h).1 by rw[HU.o.1,HU.o.2.2.1];exact c3);clear c3;go_wp2_with fail;go_roundw
      case rel=>exact⟨i,h,rfl,rfl,by omega,by omega,by omega,qH ⟨HI.o.1,.inr (by rw[a0.o];exact C3.o)⟩,L3.o,K3.o⟩
      case measure=>simp[intOf];omega
    · have P:=fM c3
      rw[ht] at P;clear ht;go_wp2_with fail
      go_region_held3 (λw'=>w'.cell? ⟨b,u*3,none⟩=some (.int .u64 u1)/\w'.cell? ⟨b,u*3+1,none⟩=some (.int .i64 u2)/\w'.cell? ⟨b,u*3+2,none⟩=some (.pointer none)/\w'.cell? ⟨b,h*3,none⟩=some (.int .u64 v1)/\w'.cell? ⟨b,h*3+1,none⟩=some (.int .i64 v2)/\w'.cell? ⟨b,h*3+2,none⟩=some (.pointer none)) (first|exact⟨k1,k2,k3,M,N,F⟩|exact⟨C,G,O,B,E,L⟩) (first
       |((with_reducible refine(CC.o _).mono ?_);rintro x w3 ⟨rfl,b3⟩;have k1:=(b3.cell (qB C)).trans C;have k2:=(b3.cell (qB G)).trans G;have k3:=(b3.cell (qB O)).trans O;have M:=(b3.cell (qB B)).trans B;have N:=(b3.cell (qB E)).trans E;have F:=(b3.cell (qB L)).trans L;have U:=qH b3;clear b3))
      have L3:=qH (I.o.drew.below U.o I.o.lt);have K3:Hd (Kept (One b) W w3):=qH ((a4.o.drew).trans (Kept.of_below U.o) (λ_ g=>g.elim));clear C G O B E L k1 k2 k3 M N F U;have C3:=qH (show ¬(e u).1<(e h).1 by rw[HU.o.1,HU.o.2.2.1];exact c3);clear c3;go_wp2_with fail;go_roundw
      case rel=>exact⟨h+1,j,by go_num,rfl,by omega,by omega,q3,qH ⟨.inr (by rw[Bo,a0.o];exact C3.o),HI.o.2⟩,L3.o,K3.o⟩
      case measure=>simp[intOf];omega
  · obtain rfl:i=j:=by omega
    obtain⟨HL,HK⟩:=qh2 hl hk;clear hl hk;obtain⟨f,hf⟩:∃f,Z - i=f:=⟨_,rfl⟩
    have k:=a1.o;have hp:=HP.o;have w1:(Z:Int) - (i:Int)=(f:Int):=(by omega);have b9:i<=m:=(by omega);have ac:i<=mid:=(by omega);have S:m<=f:=(by omega);have Q:f<=d:=(by omega);have ad:mid<=f:=(by omega);have a2:a<=i:=by omega
    have CU:=qH (vw (s:=i) (f:=f) (d:=mid) OL.o OR.o HR.o (by omega) b9 S Q (by omega)
     (by
      rcases HI.o.1 with g|g
      · exact .inl g
      · by_cases q:i=a
        · exact .inl q
        · refine .inr (.inr ?_)
          rw[show p - (i - 1)=f by omega] at g;omega)
     (by
      rcases HI.o.2 with g|g
      · exact .inr (.inl g)
      · refine .inr (.inr ?_)
        rw[show p - i=f - 1 by omega] at g;exact g))
    have SR:=qH (nV e b9 S);have a3:=qH (show i=m\/m=f->∀t,e t=rot e i m f t from λq t=>(nW e b9 S q t).symm);clear hf k hp;obtain⟨E1,l⟩:∃E1,rot e i m f=E1:=⟨_,rfl⟩
    have v:=qH (show Ord E1 a i/\Ord E1 i mid/\Rel E1 a i mid by rw[<-l];exact CU.o.1);have D:=qH (show Ord E1 mid f/\Ord E1 f d/\Rel E1 mid f d by rw[<-l];exact CU.o.2.1);have CX:=qH (show ∀x y,a<=x->x<mid->mid<=y->y<d->lx (E1 x) (E1 y) by rw[<-l];exact CU.o.2.2);rw[l] at SR a3;rcases(show(i<m/\m<f)\/(i<m/\¬m<f)\/¬i<m by omega) with⟨g1,g2⟩|⟨g1,g2⟩|g1
    all_goals
     try (have L4:=qH (HL.o.congr (λt _=>a3.o (by omega) t));have K4:=qH HK.o)
     rcases(show(a<i/\i<mid)\/(a<i/\¬i<mid)\/¬a<i by omega) with⟨g3,g4⟩|⟨g3,g4⟩|g3
     all_goals
      try (have q:i=a\/i=mid:=by omega
           have O2:Hd (Ord E1 a mid):=qH (by
            rcases q with q|q
            · have:=v.o.2.1;rw[q] at this;exact this
            · have:=v.o.1;rw[q] at this;exact this)
           have S2:=qH (bT.refl E1 a mid);have J:=qH D.o;clear q)
      rcases(show(mid<f/\f<d)\/(mid<f/\¬f<d)\/¬mid<f by omega) with⟨g5,g6⟩|⟨g5,g6⟩|g5
      all_goals
       go_wp2_with (first
        |(go_at_call 345;(with_reducible refine(ti b n c i m f _ e _ HN.o g1 g2 (by omega) HL.o).mono ?_);rintro x w4 ⟨rfl,l4,M⟩;rw[l] at l4;have L4:=qH l4;have K4:=qH (HK.o.trans M (λ_ h=> .inl h));clear l4 M)
        |(go_at_call 344;(with_reducible refine(Y.o a i mid _ _ (by omega) g3 g4 (by omega) v.o.1 v.o.2.1 v.o.2.2 L4.o).mono ?_);rintro x w5 ⟨rfl,e5,l5,o5,s5,N⟩;have L5:=qH l5;have K5:=qH (K4.o.trans N (λ_ h=> .inl h));obtain⟨S2,O2⟩:=qh2 s5 o5
          have J:=qH (show Ord e5 mid f/\Ord e5 f d/\Rel e5 mid f d from⟨D.o.1.congr (λt q r=>s5.o t (by omega)),D.o.2.1.congr (λt q r=>s5.o t (by omega)),λx y r1 r2 r3 r4=>by rw[s5.o x (by omega),s5.o y (by omega)];exact D.o.2.2 x y r1 r2 r3 r4⟩);clear l5 o5 s5 N)
        |(go_at_call 344;(first|with_reducible refine(Y.o mid f d _ _ (by omega) g5 g6 hd (J.o.1) (J.o.2.1) (J.o.2.2) L5.o).mono ?_|with_reducible refine(Y.o mid f d _ _ (by omega) g5 g6 hd (J.o.1) (J.o.2.1) (J.o.2.2) L4.o).mono ?_);rintro x w6 ⟨rfl,e6,l6,o6,s6,F⟩;have L6:=qH l6
          have K6:=(by first|exact qH (K5.o.trans F (λ_ h=> .inl h))|exact qH (K4.o.trans F (λ_ h=> .inl h)):Hd (Kept (One b) W w6));have F6:=qH (show Ord e6 a d/\bT e e6 a d from⟨eR CX.o S2.o s6 O2.o o6,((SR.o.wide a2 Q).trans (S2.o.wide qR (by omega))).trans (s6.wide (by omega) qR)⟩);clear l6 o6 s6 F))
       go_end0
       first
        |exact⟨rfl,_,L6.o,F6.o.1,F6.o.2,K6.o⟩
        |(have O6:=(by
         have q:f=d\/f=mid:=(by omega);rcases q with q|q
         · have:=J.o.1;rw[q] at this;exact this
         · have:=J.o.2.1;rw[q] at this;exact this:Ord _ mid d)
          have o6:=eR CX.o S2.o (bT.refl _ mid d) O2.o O6;have s6:=(SR.o.wide a2 Q).trans (S2.o.wide qR (by omega))
          first|exact⟨rfl,_,L5.o,o6,s6,K5.o⟩|exact⟨rfl,_,L4.o,o6,s6,K4.o⟩)
theorem sL:∀ (k b n c a m d:Nat) (e:Nat->Nat×Nat) (W:World),d - a<=k->n<=400->a<m->m<d->d<=n->Ord e a m->Ord e m d->Rel e a m d->Lfs W b n e->
 Calls prog 344 #[.slice (some ⟨b,0,none⟩) n c,.int .i64 a,.int .i64 m,.int .i64 d,.func (.func 320) #[] #[]] W λx w'=>x=.returned (.tuple #[])/\∃e',Lfs w' b n e'/\Ord e' a d/\bT e e' a d/\Kept (One b) W w'
 |0,b,n,c,a,m,d,e,W,hk,hn,h1,h2,h3,ol,or,hr,H=>absurd hk (by omega)
 |k+1,b,n,c,a,m,d,e,W,hk,hn,h1,h2,h3,ol,or,hr,H=>by
  have h:=λ(a' j i:Nat) (e':Nat->Nat×Nat) (o:World) (q:i - a'<d - a)=>sL k b n c a' j i e' o (by omega) hn
  by_cases c1:m=a+1
  · exact FA b n c a m d e W hn h1 h2 h3 ol or hr H c1
  by_cases g:d=m+1
  · exact Fz b n c a m d e W hn h1 h2 h3 ol or hr H c1 g
  by_cases l:(a+d) /2<m
  · exact FD b n c a m d e W hn h1 h2 h3 ol or hr H c1 g _ rfl l h
  · exact FC b n c a m d e W hn h1 h2 h3 ol or hr H c1 g _ rfl (by omega) h
theorem FF(b n c a m d:Nat)(e:Nat->Nat×Nat)(W:World)(o:n<=400)(g:a<m)(l:m<d)(h:d<=n)(i:Ord e a m)(j:Ord e m d)(k:Rel e a m d)(H:Lfs W b n e):
 Calls prog 344 #[.slice (some ⟨b,0,none⟩) n c,.int .i64 a,.int .i64 m,.int .i64 d,.func (.func 320) #[] #[]] W λx w'=>x=.returned (.tuple #[])/\∃e',Lfs w' b n e'/\Ord e' a d/\bT e e' a d/\Kept (One b) W w':=
 sL (d - a) b n c a m d e W qR o g l h i j k H
def wM:Prop:=∀ (b n c a m d:Nat) (e:Nat->Nat×Nat) (W:World),n<=400->a<m->m<d->d<=n->Ord e a m->Ord e m d->Rel e a m d->Lfs W b n e->
 Calls prog 344 #[.slice (some ⟨b,0,none⟩) n c,.int .i64 a,.int .i64 m,.int .i64 d,.func (.func 320) #[] #[]] W λx w'=>x=.returned (.tuple #[])/\∃e',Lfs w' b n e'/\Ord e' a d/\bT e e' a d/\Kept (One b) W w'
theorem LC:wM:=λb n c a m d e W l f k g h i j H=>FF b n c a m d e W l f k g h i j H
theorem qe(b n c:Nat)(v:Nat->Nat×Nat)(W:World)(hn:n<=400)(hi:Inc v n)(H:Lfs W b n v)(hs:20<n->wM):
 Calls prog 337 #[.slice (some ⟨b,0,none⟩) n c,.int .i64 n,.func (.func 320) #[] #[]] W λx w'=>x=.returned (.tuple #[])/\∃e',Lfs w' b n e'/\Ord e' 0 n/\Mem v e' 0 n/\Kept (One b) W w':=by
 obtain⟨HW,HI,HN⟩:=qh3 H hi hn;clear H hi;go_enter func337,ntmps337;go_wp2_with fail
 go_loopw [7,8] (λx y wr=> ∃ (a q:Nat) (e:Nat->Nat×Nat),x=.int .i64 a/\y=.int .i64 ((a:Int)+20)/\a<=n/\Lfs wr b n e/\Hd (a=q*20/\Blk v e 20 0 a n/\(∀t,a<=t->e t=v t)/\Kept (One b) W wr)) (λx y _=>401 - (intOf x).toNat)
 case atStart=>exact⟨0,0,v,rfl,by simp,qZ,HW.o,qH ⟨rfl,pA _ _ _ _ _,λ_ _=>rfl,Kept.refl _ _⟩⟩
 case round=>
  obtain⟨a,q,e,rfl,rfl,q1,O,R⟩:=hrel;have HL:=qH O;clear O;by_cases c1:a+20<=n
  · obtain⟨d,I⟩:∃d,a+20=d:=⟨_,rfl⟩
    have e1:(a:Int)+20=(d:Int):=(by omega);have D:d<=n:=(by omega);have a5:a<=d:=(by omega);have P:=qH I;have HS:=qH (show ∀i j,a<=i->i<j->j<d->(e i).2<(e j).2 from λi j g1 g2 g3=>by
     rw[R.o.2.2.1 i g1,R.o.2.2.1 j (by omega)];exact HI.o i j g2 (by omega))
    clear I c1;go_wp2_with fail;refine(uJ b n c a d e _ HN.o a5 D HS.o HL.o).mono ?_;rintro x w1 ⟨rfl,e',l1,Q,F,U⟩;have L1:=qH l1;have F1:=qH (And.intro Q (And.intro F U));clear l1 Q F U;go_wp2_with fail;go_roundw
    case rel=>
     obtain⟨r,A,p,G⟩:=R.o;obtain⟨Q,F,U⟩:=F1.o;have I:=P.o;have k:min (a+20) n=d:=(by omega);refine⟨d,q+1,e',rfl,rfl,D,L1.o,qH ⟨by rw[C9];omega,?_,λt g=>by rw[F.o t (.inr g),p t (by omega)],G.trans U (λ_ h=> .inl h)⟩⟩;have:=eW (e':=e') A r (by rw[k];exact Q) (λt g=>F.o t (.inl g)) (by rw[k];exact(Mem.of_eq (λi g _=>p i g)).trans F.mem)
     rwa [I] at this
    case measure=>have I:=P.o;simp[intOf];omega
  · have HS:=qH (show ∀i j,a<=i->i<j->j<n->(e i).2<(e j).2 from λi j g1 g2 g3=>by
     rw[R.o.2.2.1 i g1,R.o.2.2.1 j (by omega)];exact HI.o i j g2 (by omega))
    have HC:=qH (show n<=a+20 by omega);have d1:decide ((a:Int)+20<=(n:Int))=false:=qF (by omega);clear c1;go_wp2_with fail;refine(uJ b n c a n e _ HN.o q1 qR HS.o HL.o).mono ?_;rintro x w1 ⟨rfl,e',l1,Q,F,U⟩;have L1:=qH l1;have K1:=qH (R.o.2.2.2.trans U (λ_ h=> .inl h))
    have B1:=qH (show Blk v e' 20 0 n n from by
     obtain⟨r,A,p,G⟩:=R.o;have k:min (a+20) n=n:=Bw HC.o;exact iB (eW (e':=e') A r (by rw[k];exact Q) (λt g=>F.o t (.inl g)) (by rw[k];exact(Mem.of_eq (λi g _=>p i g)).trans F.mem)) HC.o)
    clear l1 Q F U;go_wp2_with fail
    go_loopw [6,7,8,9] (λx y z u wr=> ∃ (bs:Nat) (e:Nat->Nat×Nat),x=.int .i64 bs/\20<=bs/\bs<=800/\Lfs wr b n e/\Hd (Blk v e bs 0 n n/\Kept (One b) W wr)) (λx y z u _=>401 - (intOf x).toNat)
    case atStart=>exact⟨20,e',rfl,by omega,by omega,L1.o,qH ⟨B1.o,K1.o⟩⟩
    case round=>
     obtain⟨bs,e2,rfl,r1,r2,O,M⟩:=hrel;have a1:=qH O;clear O;by_cases c2:bs<n
     · have a0:=qH (hs (by omega))
       have E:0<bs:=(by omega);obtain⟨B,l⟩:∃B,2*bs=B:=⟨_,rfl⟩
       have w1:2*(bs:Int)=(B:Int):=(by omega);have w2:(bs:Int)*2=(B:Int):=(by omega);have X:B<=800:=(by omega);have a6:bs<B:=(by omega);have C:=qH l;have Y:=qH (show Blk v e2 B 0 0 n/\Blk v e2 bs 0 n n from⟨pA _ _ _ _ _,M.o.1⟩);clear l;go_wp2_with fail
       go_loopw [7,8] (λx y ws=> ∃ (a q:Nat) (e:Nat->Nat×Nat),x=.int .i64 a/\y=.int .i64 ((a:Int)+(B:Int))/\a<=n/\Lfs ws b n e/\Hd (a=q*B/\Blk v e B 0 a n/\Blk v e bs a n n/\Kept (One b) W ws)) (λx y _=>401 - (intOf x).toNat)
       case atStart=>exact⟨0,0,e2,rfl,by simp,qZ,a1.o,qH ⟨by simp,Y.o.1,Y.o.2,M.o.2⟩⟩
       case round=>
        obtain⟨a,q,N,rfl,rfl,q1,O,w⟩:=hrel;have V:=qH O;clear O;by_cases c3:a+B<=n
        · obtain⟨d,I⟩:∃d,a+B=d:=⟨_,rfl⟩
          obtain⟨m,s⟩:∃m,a+bs=m:=⟨_,rfl⟩
          have v1:(a:Int)+(B:Int)=(d:Int):=(by omega);have v2:(a:Int)+(bs:Int)=(m:Int):=(by omega);have v3:(d:Int)+(B:Int)<=2000:=(by omega);have D:d<=n:=(by omega);have a3:m<d:=(by omega);have T:a<m:=by omega
          have S:=qH (show Ord N a m/\Ord N m d/\Rel N a m d from by
           obtain⟨r,A,p,G⟩:=w.o;have l:=C.o;have:=vY (d:=d) p (by rw[l];exact r) E (by omega) (by omega) HI.o
           rwa [s] at this)
          have P:=qH (And.intro I s);clear I s c3;go_wp2_with fail;refine(a0.o b n c a m d N _ HN.o T a3 D S.o.1 S.o.2.1 S.o.2.2 V.o).mono ?_;rintro x w5 ⟨rfl,e5,Z,L,J,K⟩;have L5:=qH Z;have F5:=qH (And.intro L (And.intro J K));clear Z L J K;go_wp2_with fail;go_roundw
          case rel=>
           obtain⟨r,A,p,G⟩:=w.o;obtain⟨L,J,K⟩:=F5.o;obtain⟨I,s⟩:=P.o;have l:=C.o;have k:d=min (a+2*bs) n:=(by omega);have:=lh (by rw[l];exact A) p (by rw[l];exact r) E (by omega) k L J;rw[l,I] at this;exact⟨d,q+1,e5,rfl,rfl,D,L5.o,qH ⟨by rw[C9];omega,this.1,this.2,G.trans K (λ_ h=> .inl h)⟩⟩
          case measure=>simp[intOf];omega
        · obtain⟨m,s⟩:∃m,a+bs=m:=⟨_,rfl⟩
          have v2:(a:Int)+(bs:Int)=(m:Int):=(by omega);have d3:decide ((a:Int)+(B:Int)<=(n:Int))=false:=qF (by omega);have a4:=qH (show n<=a+B by omega);by_cases c4:m<n
          · have T:a<m:=by omega
            have S:=qH (show Ord N a m/\Ord N m n/\Rel N a m n from by
             obtain⟨r,A,p,G⟩:=w.o;have l:=C.o;have:=vY (d:=n) p (by rw[l];exact r) E (by omega) (by omega) HI.o
             rwa [s] at this)
            have P:=qH s;clear s c3;go_wp2_with fail;refine(a0.o b n c a m n N _ HN.o T c4 qR S.o.1 S.o.2.1 S.o.2.2 V.o).mono ?_;rintro x w5 ⟨rfl,e5,Z,L,J,K⟩;have L5:=qH Z;have F5:=qH (And.intro L (And.intro J K));clear Z L J K;go_wp2_with fail;go_roundw
            case rel=>
             obtain⟨r,A,p,G⟩:=w.o;obtain⟨L,J,K⟩:=F5.o;have s:=P.o;have l:=C.o;have a2:=a4.o;have k:n=min (a+2*bs) n:=(by omega);have:=lh (by rw[l];exact A) p (by rw[l];exact r) E (by omega) k L J;rw[l] at this;exact⟨B,e5,rfl,by omega,X,L5.o,qH ⟨iB this.1 a2,G.trans K (λ_ h=> .inl h)⟩⟩
            case measure=>simp[intOf];omega
          · have P:=qH s
            clear s c3;go_wp2_with fail;go_roundw
            case rel=>
             obtain⟨r,A,p,G⟩:=w.o;have s:=P.o;have l:=C.o;have:=zC (by rw[l];exact A) p (by rw[l];exact r) E (by omega) q1;rw[l] at this;exact⟨B,N,rfl,by omega,X,V.o,qH ⟨this,G⟩⟩
            case measure=>simp[intOf];omega
     · have HE:=qH (Ig M.o.1 (by omega))
       go_wp2_with fail;go_end0;exact⟨rfl,e2,a1.o,HE.o.1,HE.o.2,M.o.2⟩
theorem xl(b n c:Nat)(a:Nat->Nat×Nat)(W:World)(k:n<=400)(hi:Inc a n)(H:Lfs W b n a)(hs:20<n->wM):
 Calls prog 319 #[.slice (some ⟨b,0,none⟩) n c,.func (.func 320) #[] #[]] W λx w'=>x=.returned (.tuple #[])/\∃e',Lfs w' b n e'/\Ord e' 0 n/\Mem a e' 0 n/\Kept (One b) W w':=by
 obtain⟨m,j⟩:=qh2 H hi;clear H hi;go_enter func319,ntmps319;go_wp2_with fail;refine(qe b n c a _ k j.o m.o hs).mono ?_;rintro x p ⟨rfl,i,g,h,e,d⟩;have l:=qH (And.intro g (And.intro h (And.intro e d)));clear g h e d;go_wp2_with fail;go_end0;exact⟨rfl,i,l.o⟩
theorem yS(c a:Nat)(b:Value)(W:World):
 Calls prog 343 #[.slice none 0 c,.int .i64 0,.int .i64 0,b] W λx w'=>x=.returned (.tuple #[])/\W=w':=by
 go_enter func343,ntmps343;go_wp2_with fail
 go_loop [8] (λv=>v=.int .i64 1) (λ_=>0)
 case atStart=>rfl
 case round=>
  obtain rfl:=hrel;go_wp2_with fail;go_end0;exact⟨rfl,rfl⟩
theorem lO(c:Nat)(a:Value)(W:World):
 Calls prog 337 #[.slice none 0 c,.int .i64 0,a] W λx w'=>x=.returned (.tuple #[])/\W=w':=by
 go_enter func337,ntmps337;go_wp2_with fail
 go_loop [7,8] (λx y=>x=.int .i64 0/\y=.int .i64 20) (λ_ _=>0)
 case atStart=>exact⟨rfl,rfl⟩
 case round=>
  obtain⟨rfl,rfl⟩:=hrel;go_wp2_with fail;refine(yS c 0 a _).mono ?_;rintro x b ⟨rfl,rfl⟩;go_wp2_with fail
  go_loop [6] (λx=>x=.int .i64 20) (λ_=>0)
  case atStart=>rfl
  case round=>
   obtain rfl:=hrel;go_wp2_with fail;go_end0;exact⟨rfl,rfl⟩
theorem sP(c:Nat)(a:Value)(W:World):
 Calls prog 319 #[.slice none 0 c,a] W λx w'=>x=.returned (.tuple #[])/\W=w':=by
 go_enter func319,ntmps319;go_wp2_with fail;refine(lO c a _).mono ?_;rintro x b ⟨rfl,rfl⟩;go_wp2_with fail;go_end0;exact⟨rfl,rfl⟩
abbrev Tr:=Nat×Nat×Option Addr
def cl:List Tr->List Value
 |[]=> []
 |t::l=> .int .u64 t.1::.int .i64 t.2.1::.pointer t.2.2::cl l
theorem fP:∀l,(cl l).length=l.length*3
 |[]=>rfl
 |t::l=>by simp only[cl,qC];rw[fP l];omega
theorem kZ:∀l r,cl (l++r)=cl l++cl r
 |[],_=>rfl
 |t::l,r=>by simp only[Ac,cl];rw[kZ l r]
theorem Hz:∀ (l:List Tr) (i:Nat) (t:Tr),l[i]? =some t->(cl l)[i*3]? =some (.int .u64 t.1)/\(cl l)[i*3+1]? =some (.int .i64 t.2.1)/\(cl l)[i*3+2]? =some (.pointer t.2.2)
 |[],i,t,h=>by simp at h
 |a::l,0,t,h=>by simp at h;subst h;simp[cl]
 |a::l,i+1,t,h=>by
  rw[C0] at h;obtain⟨b,c,d⟩:=Hz l i t h;simp only[cl];refine⟨?_,?_,?_⟩
  · rw[show(i+1)*3=i*3+1+1+1 by omega];simpa using b
  · rw[show(i+1)*3+1=i*3+1+1+1+1 by omega];simpa using c
  · rw[show(i+1)*3+2=i*3+2+1+1+1 by omega];simpa using d
theorem EL:∀ (l:List Tr),∀u∈cl l,u.oneCell'=true
 |[],u,h=>by simp[cl] at h
 |t::l,u,h=>by
  simp only[cl,Ab] at h;rcases h with rfl|rfl|rfl|h
  · rfl
  · rfl
  · rfl
  · exact EL l u h
def Trs(w:World)(b o:Nat)(l:List Tr):Prop:=∀i t,l[i]? =some t->w.cell? ⟨b,o+i*3,none⟩=some (.int .u64 t.1)/\w.cell? ⟨b,o+i*3+1,none⟩=some (.int .i64 t.2.1)/\w.cell? ⟨b,o+i*3+2,none⟩=some (.pointer t.2.2)
theorem Kr(b o j:Nat):(⟨b,o,none⟩:Addr).add j=⟨b,o+j,none⟩:=by
 unfold Addr.add
 split
 · rename_i h;subst h;rfl
 · rfl
theorem Trs.cl{w:World}{b o:Nat}:∀ {l:List Tr},Trs w b o l->∀j u,(cl l)[j]? =some u->w.cell? ((⟨b,o,none⟩:Addr).add j)=some u:=by
 intro l h j u a;rw[Kr];have m:j<l.length*3:=(by rw[<-fP];exact(An.1 a).1);have hi:j/3<l.length:=(by omega);obtain⟨d,k,i⟩:=h (j/3) _ (qE hi);obtain⟨c,f,g⟩:=Hz l (j/3) _ (qE hi);have:j=j/3*3\/j=j/3*3+1\/j=j/3*3+2:=(by omega);rcases this with e|e|e
 · rw[<-e] at c d;rw[c] at a;rw[d,<-a]
 · rw[<-e] at f;rw[f] at a;rw[show o+j=o+j/3*3+1 by omega,k,<-a]
 · rw[<-e] at g;rw[g] at a;rw[show o+j=o+j/3*3+2 by omega,i,<-a]
def Ow(base:Nat)(w:World)(v:Value)(l:List Tr):Prop:=w.ownsRow base 386 3 v l.length (cl l)
section
variable {base:Nat} {w w':World} {v:Value} {l r:List Tr}
theorem Ow.alloc(h:Ow base w v l)(o:Obj):Ow base (w.alloc o) v l:=World.ownsRow.alloc h o
theorem Ow.drewN(h:Ow base w v l)(n:Nat):Ow base (w.drewN n) v l:=h
theorem Ow.nil(base:Nat)(w:World):Ow base w (.slice none 0 0) []:=World.ownsRow_nil w base _ 3
theorem Ow.lt(h:Ow base w v l):∀k,v.ownBlock=some k->base<=k/\k<w.heap.size:=World.ownsRow.lt h
theorem Ow.form(h:Ow base w v l):(v=.slice none 0 0/\l=[])\/∃g a,v=.slice (some ⟨g,0,none⟩) l.length a/\base<=g/\g<w.heap.size:=by
 rcases h.2 with⟨c,f⟩|⟨g,a,e,rfl,d,b,_⟩
 · exact .inl ⟨c,D3 f⟩
 · refine .inr ⟨g,a,rfl,d,?_⟩
   rcases By g w.heap.size with q|q
   · exact q
   · rw[AT q] at b;cases b
theorem Ow.cap{g n a:Nat}(h:Ow base w (.slice (some ⟨g,0,none⟩) n a) l):l.length=n/\n<=a/\a<=maxLen:=by
 rcases h.2 with⟨b,_⟩|⟨g',d,f,b,_,_,e,c,_⟩
 · simp at b
 · simp only[Value.slice.injEq,Option.some.injEq,Addr.mk.injEq,AU] at b
   obtain⟨rfl,i,rfl⟩:=b;exact⟨i.symm,by omega,c⟩
theorem Ow.trs{g n a:Nat}(h:Ow base w (.slice (some ⟨g,0,none⟩) n a) l):Trs w g 0 l:=by
 have m:=h.cap.1;subst m;intro i t hi;have b:=(An.1 hi).1;obtain⟨c,f,d⟩:=Hz l i t hi;rw[Aa];have k:=λj e=>World.ownsRow.cellAt (w:=w) h j e
 exact⟨(k _ (by omega)).trans c,(k _ (by omega)).trans f,(k _ (by omega)).trans d⟩
theorem Ow.block{g n c:Nat}(h:Ow base w (.slice (some ⟨g,0,none⟩) n c) l):∃a:Array Value,w.heap[g]? =some (.cells a 386 (0,0))/\n*3<=a.size:=by
 rcases h.2 with⟨b,_⟩|⟨g',d,a,b,_,f,i,e,hs,_⟩
 · simp at b
 · simp only[Value.slice.injEq,Option.some.injEq,Addr.mk.injEq,AU] at b
   obtain⟨rfl,j,rfl⟩:=b;exact⟨a,f,by rw[hs];omega⟩
end
theorem fi:(prog.info? 386).map (λi=>(i.zero,i.size,i.bytes))=some (some (.agg #[.int .u64 0,.int .i64 0,.pointer none]),3,24):=by kernel_rfl
theorem xV:(prog.info? 432).map (λi=>(i.zero,i.size,i.bytes))=some (some (.agg #[.int .u64 0,.int .i64 0,.pointer none,.int .u64 0,.int .i64 0,.pointer none]),6,48):=by kernel_rfl
theorem byteInfo:(prog.info? 5).map (λi=>(i.zero,i.size,i.bytes))=some (some (.int .u8 0),1,1):=by kernel_rfl
theorem info_of{e:TypeId}{z:Value}{size bytes:Nat}(hi:(prog.info? e).map (λi=>(i.zero,i.size,i.bytes))=some (some z,size,bytes)):∃i,prog.info? e=some i/\i.zero=some z/\i.size=size/\i.bytes=bytes:=by
 cases a: prog.info? e with
 |none=>rw[a] at hi;cases hi
 |some i=>rw[a] at hi;simp at hi;exact⟨i,rfl,hi.1,hi.2.1,hi.2.2⟩
theorem eG(w:World){t e:TypeId}{z:Value}{size a:Nat}(p: prog.underlying t=some (.slice e))(hi:(prog.info? e).map (λi=>(i.zero,i.size,i.bytes))=some (some z,size,a))(f:a<=64)(n m:Nat)(s:n<=m)(d:m<=2000):
 (Instr.makeSlice t (.int .i64 (n:Int)) (.int .i64 (m:Int))).run prog w=.ok (.slice (some ⟨w.heap.size,0,none⟩) n m) (w.alloc (.cells (madeCells z.cells (m*size)) e)):=by
 obtain⟨i,g,q,j,o⟩:=info_of hi;subst j o;have b:(i.bytes:Int)*(m:Int)<=281474976710656:=by
  have h:i.bytes*m<=64*2000:=BS f d;have k:((i.bytes*m:Nat):Int)<=281474976710656:=by omega
  rwa [Cc] at k
 have c:=run_make (P:= prog) w t e i z p g q .i64 .i64 n m (by omega) (by omega) b (by omega);simp only[Au] at c;exact c
theorem J2(w:World)(ty:TypeId)(base:Nat)(v:Value)(l r:List Tr)(a:Ow base w v l)(b o c:Nat)(n:Trs w b o r)(x:l.length+r.length<=2000)(e:base<=w.heap.size):
 ∃d w',(Builtin.append_ #[382,382] ty #[v,.slice (some ⟨b,o,none⟩) r.length c]).run prog w=.ok d w'/\Ow base w' d (l++r)/\w.grownBy w' v.ownBlock/\Below base w w'/\(d.ownBlock=v.ownBlock\/d.ownBlock=some w.heap.size):=by
 obtain⟨i,g,s,j,u⟩:=info_of fi
 obtain⟨d,w',p,q,f,_,m⟩:=run_append_own_at (P:= prog) w base 382 ty 386 i _ 3 24 underlying382 g s j u rfl (by decide) v l.length (cl l) a ⟨b,o,none⟩ r.length c (cl r) (fP r)
  n.cl (EL r) (by unfold maxLen;omega) (by omega) e
 refine⟨d,w',p,?_,f,(Below.refl base w).grown f e (λk h=>(World.ownsRow.lt a k h).1),m⟩;unfold Ow;rw[qA,kZ];exact q
theorem bN{f:Array Oper}{d:List Oper}{o:Oper}{a:Act}{w:World}{Q:Exit->Act->World->Prop}(i:o.guard=none)(s x:Operand)(A:o.op=.call {callee:=.builtin .append,args:= #[s,x],argTypes:= #[382,382]})
 (base:Nat) (v:Value) (l r:List Tr) (hs:a.eval s=v) (g:Ow base w v l) (b j n c:Nat) (k:a.eval x=.slice (some ⟨b,j,none⟩) n c) (E:r.length=n) (z:Trs w b j r) (m:l.length+r.length<=2000) (q:base<=w.heap.size)
 (h:∀e w',Ow base w' e (l++r)->w.grownBy w' v.ownBlock->Below base w w'->(e.ownBlock=v.ownBlock\/e.ownBlock=some w.heap.size)->wpList prog f Q d (a.put o.dst e) w'):wpList prog f Q (o::d) a w:=
 wpList_plain i λK D=>by
  subst E;obtain⟨e,w',B,C,u,p,y⟩:=J2 w o.type base v l r g b j c z m q;unfold Oper.wp execOp;simp only[A,resolve,invoke,builtin,Sem.run_bind,Sem.run_pure,Result.andThen_ok,AV,Al,Av,hs,k,B];exact D _ _ (h e w' C u p y)
def pK(w:World)(base:Nat):Th->Option Addr->Prop
 |.lf _ _,p=>p=none
 |.pk x y,p=> ∃g o px py,p=some ⟨g,o,none⟩/\base<=g/\g<w.heap.size/\
  (w.cell? ⟨g,o,none⟩=some (.int .u64 x.wt)/\w.cell? ⟨g,o+1,none⟩=some (.int .i64 x.sy)/\w.cell? ⟨g,o+2,none⟩=some (.pointer px))/\
  (w.cell? ⟨g,o+3,none⟩=some (.int .u64 y.wt)/\w.cell? ⟨g,o+4,none⟩=some (.int .i64 y.sy)/\w.cell? ⟨g,o+5,none⟩=some (.pointer py))/\pK w base x px/\pK w base y py
theorem pK.kept{w w':World}{base:Nat}(q:∀g,base<=g->g<w.heap.size->w'.heap[g]? =w.heap[g]?)(hs:w.heap.size<=w'.heap.size):∀ {t:Th} {p:Option Addr},pK w base t p->pK w' base t p
 |.lf _ _,p,h=>h
 |.pk x y,p,h=>by
  obtain⟨g,o,z,u,rfl,b,j,⟨s,e,d⟩,⟨m,i,b3⟩,f,n⟩:=h;have c:=λk=>World.cell?_of_block (w:=w) (w':=w') (a:=⟨g,k,none⟩) (q g b j)
  exact⟨g,o,z,u,rfl,b,by omega,⟨(c _).trans s,(c _).trans e,(c _).trans d⟩,⟨(c _).trans m,(c _).trans i,(c _).trans b3⟩,f.kept q hs,n.kept q hs⟩
theorem pK.below{w w':World}{base:Nat}{t:Th}{p:Option Addr}(h:pK w base t p)(a:Below w.heap.size w w'):pK w' base t p:=h.kept (λg _ b=>a.block g b) a.size
abbrev Tp:=Th×Option Addr
def tr(x:Tp):Tr:=(x.1.wt,x.1.sy,x.2)
def aK(w:World)(base:Nat)(A:Option Addr)(X:List Tp):Prop:=
 (0<X.length->∃b o,A=some ⟨b,o,none⟩/\b<w.heap.size/\Trs w b o (X.map tr))/\∀x∈X,pK w base x.1 x.2
theorem Trs.below{w w':World}{b o:Nat}{l:List Tr}(h:Trs w b o l)(c:b<w.heap.size)(a:Below w.heap.size w w'):Trs w' b o l:=λi t hi=>by
 obtain⟨d,f,e⟩:=h i t hi;exact⟨(a.cell c).trans d,(a.cell c).trans f,(a.cell c).trans e⟩
theorem aK.below{w w':World}{base:Nat}{A:Option Addr}{X:List Tp}(h:aK w base A X)(a:Below w.heap.size w w'):aK w' base A X:=by
 refine⟨λg=> ?_,λx d=>(h.2 x d).below a⟩;obtain⟨b,o,e,c,f⟩:=h.1 g;exact⟨b,o,e,Ag c a.size,f.below c a⟩
theorem Trs.one{w:World}{b o:Nat}{X:List Tp}(h:Trs w b o (X.map tr)){i:Nat}{x:Tp}(a:X[i]? =some x):w.cell? ⟨b,o+i*3,none⟩=some (.int .u64 x.1.wt)/\w.cell? ⟨b,o+i*3+1,none⟩=some (.int .i64 x.1.sy)/\w.cell? ⟨b,o+i*3+2,none⟩=some (.pointer x.2):=
 h i (tr x) (by rw[Am,a];rfl)
theorem Trs.drop{w:World}{b o:Nat}{l:List Tr}(h:Trs w b o l)(k:Nat):Trs w b (o+k*3) (l.drop k):=λi t hi=>by
 rw[Bm] at hi;have:=h (k+i) t hi;rw[show o+(k+i)*3=o+k*3+i*3 by omega] at this;exact this
def Kw(z:Nat->Int)(n:Nat):Prop:=n<=320/\∀i,i<n->0<=z i/\z i<=1073741824
instance (z:Nat->Int) (n:Nat):Decidable (Kw z n):=inferInstanceAs (Decidable (n<=320/\∀i,i<n->0<=z i/\z i<=1073741824))
def Lf(z:Nat->Int)(n:Nat):Bool:=decide (Kw z n)
theorem kB{z:Nat->Int}{n:Nat}(h:Kw z n):Lf z n=true:=q9T h
theorem dR{z:Nat->Int}{n:Nat}(h:¬Kw z n):Lf z n=false:=qF h
theorem xM(A:Option Addr)(n c:Nat)(z:Nat->Int)(w:World)(u:n<=maxLen)(H:av w .i64 A n z):
 Calls prog 300 #[.slice A n c] w λe w'=>e=.returned (.bool (Lf z n))/\w=w':=by
 have B:n<=9223372036854775807:=(by unfold maxLen at u;omega);clear u;by_cases s:n<=320
 · go_enter func300,ntmps300
   go_wp2
   go_loop [10] (λi=> ∃k:Nat,k<=n/\i=.int .i64 k/\Hd (∀j,j<k->0<=z j/\z j<=1073741824)) (λi=>n - (intOf i).toNat)
   case atStart=>exact⟨0,qZ,rfl,qH (λj y=>by omega)⟩
   case round=>
    obtain⟨k,E,rfl,m⟩:=hrel;by_cases h:k<n
    · obtain⟨b,o,rfl,C,t⟩:=H (by omega)
      have a:=t k h;clear t;generalize q:z k=x at a;have p:=qH q;clear q;by_cases D:x<0
      · have d:=qH (dR (z:=z) (n:=n) (λg=>by have:=g.2 k h;rw[p.o] at this;omega))
        go_wp2;go_ret;exact⟨by rw[d.o];rfl,rfl⟩
      · by_cases F:1073741824<x
        · have d:=qH (dR (z:=z) (n:=n) (λg=>by have:=g.2 k h;rw[p.o] at this;omega))
          go_wp2;go_ret;exact⟨by rw[d.o];rfl,rfl⟩
        · go_wp2
          go_round
          case rel=>exact⟨k+1,by omega,by go_num,qH (λj y=>by
           by_cases e:j=k
           · rw[e,p.o];omega
           · exact m.o j (by omega))⟩
          case measure=>simp[intOf];omega
    · obtain rfl:k=n:=by omega
      have d:=qH (kB (z:=z) (n:=k) ⟨s,m.o⟩);go_wp2;go_ret;exact⟨by rw[d.o];rfl,rfl⟩
 · have d:=qH (dR (z:=z) (n:=n) (λg=>s g.1))
   go_enter func300,ntmps300;go_wp2;go_ret;exact⟨by rw[d.o];rfl,rfl⟩
structure Raw(c:Nat->Nat)(k m:Nat)(e:Nat->Nat×Nat):Prop where
 inc:Inc e m
 is_:∀i,i<m->(e i).2<k/\0<c (e i).2/\(e i).1=c (e i).2
 all:∀s,s<k->0<c s->∃i,i<m/\(e i).2=s
 le:m<=k
structure gJ(c:Nat->Nat)(n m:Nat)(e:Nat->Nat×Nat):Prop where
 ord:Ord e 0 m
 is_:∀i,i<m->(e i).2<n/\0<c (e i).2/\(e i).1=c (e i).2
 all:∀s,s<n->0<c s->∃i,i<m/\(e i).2=s
 le:m<=n
theorem Raw.none(c:Nat->Nat)(e:Nat->Nat×Nat):Raw c 0 0 e:=⟨λi j a b=>by omega,λi h=>by omega,λs h=>by omega,qR⟩
theorem Raw.skip{c:Nat->Nat}{k m:Nat}{e:Nat->Nat×Nat}(h:Raw c k m e)(b:c k=0):Raw c (k+1) m e:=
 ⟨h.inc,λi hi=>by have:=h.is_ i hi;exact⟨by omega,this.2⟩,λs hs a=>by
  by_cases q:s=k
  · subst q;omega
  · exact h.all s (by omega) a,by have:=h.le;omega⟩
theorem Raw.more{c:Nat->Nat}{k m:Nat}{e:Nat->Nat×Nat}(h:Raw c k m e)(b:0<c k):Raw c (k+1) (m+1) (λi=>if i=m then(c k,k) else e i):=by
 refine⟨λi j a f=> ?_,λi hi=> ?_,λs hs d=> ?_,by have:=h.le;omega⟩
 · by_cases q:j=m
   · have:=(h.is_ i (by omega)).1
     simp only[A7 q,A0 (show ¬i=m by omega)];exact this
   · simp only[A0 q,A0 (show ¬i=m by omega)];exact h.inc i j a (by omega)
 · by_cases q:i=m
   · simp only[A7 q];exact⟨D4 _,b,trivial⟩
   · simp only[A0 q];have:=h.is_ i (by omega);exact⟨by omega,this.2⟩
 · by_cases q:s=k
   · exact⟨m,by omega,by simp only[A7];exact q.symm⟩
   · obtain⟨i,hi,r⟩:=h.all s (by omega) d
     exact⟨i,by omega,by simp only[A0 (show ¬i=m by omega)];exact r⟩
theorem Raw.lv{c:Nat->Nat}{n m:Nat}{e e':Nat->Nat×Nat}(h:Raw c n m e)(f:Ord e' 0 m)(b:Mem e e' 0 m):gJ c n m e':=
 ⟨f,λi hi=>by
  obtain⟨j,_,a,q⟩:=b.fro i qZ hi;rw[q];exact h.is_ j a,λs hs d=>by
  obtain⟨i,hi,r⟩:=h.all s hs d;obtain⟨j,_,a,q⟩:=b.to i qZ hi;exact⟨j,a,by rw[<-q];exact r⟩,h.le⟩
def lt3(m:Nat)(e:Nat->Nat×Nat):List Tr:=(List.range m).map λi=>((e i).1,(e i).2,none)
theorem dV(m:Nat)(e:Nat->Nat×Nat):(lt3 m e).length=m:=by unfold lt3;simp
theorem JC(m:Nat)(e:Nat->Nat×Nat){i:Nat}(h:i<m):(lt3 m e)[i]? =some ((e i).1,(e i).2,none):=by unfold lt3;simp[h]
theorem yz(m x y:Nat)(e:Nat->Nat×Nat):lt3 m e++[(x,y,none)]=lt3 (m+1) (λi=>if i=m then(x,y) else e i):=by
 unfold lt3;rw[Bi,Aw];congr 1
 · apply BG
   intro i hi;have:=Ca.1 hi;simp only[A0 (show ¬i=m by omega)]
 · simp
theorem Ow.lfs{base g m c:Nat}{w:World}{e:Nat->Nat×Nat}(h:Ow base w (.slice (some ⟨g,0,none⟩) m c) (lt3 m e)):Lfs w g m e:=by
 obtain⟨a,b,hs⟩:=h.block;refine⟨a,b,hs,λi hi=> ?_⟩;have:=h.trs i _ (JC m e hi);rw[cell_of_row w g _ a _ _ b,cell_of_row w g _ a _ _ b,cell_of_row w g _ a _ _ b] at this;rw[Aa] at this;exact this
theorem fp(w:World)(x y:Nat)(p:Option Addr):Trs (w.alloc (.cells #[.int .u64 x,.int .i64 y,.pointer p] 386)) w.heap.size 0 [(x,y,p)]:=by
 intro i t h
 match i,h with
 |0,h=>
  simp at h;subst h;simp
theorem qz(A:Option Addr)(n c':Nat)(c:Nat->Nat)(W:World)(hn:n<=320)(N:∀i,c i<=1073741824)(H:av W .i64 A n (λi=>(c i:Int)))(hs:∀m e,Raw c n m e->20<m->wM):
 Calls prog 301 #[.slice A n c'] W λx w'=> ∃P d m e,x=.returned (.slice P m d)/\m<=d/\gJ c n m e/\(0<m->∃b,P=some ⟨b,0,none⟩/\Lfs w' b m e)/\Below W.heap.size W w':=by
 obtain⟨HC,HA⟩:=qh2 N H;clear N H;go_enter func301,ntmps301;go_wp2_with fail
 go_loopw [3,8] (λv i wr=> ∃ (k m:Nat) (e:Nat->Nat×Nat),i=.int .i64 k/\k<=n/\Hd (Ow W.heap.size wr v (lt3 m e)/\Raw c k m e/\Below W.heap.size W wr)) (λv i _=>n - (intOf i).toNat)
 case atStart=>exact⟨0,0,λ_=>(0,0),rfl,qZ,qH ⟨Ow.nil _ _,Raw.none _ _,Below.refl _ _⟩⟩
 case round=>
  obtain⟨k,m,e,rfl,hk,a⟩:=hrel;by_cases J:k<n
  · obtain⟨b,o,rfl,hb,u⟩:=HA.o (by omega)
    have p:wr.cell? ⟨b,o+k,none⟩=some (.int .i64 (c k)):=(a.o.2.2.cell hb).trans (u k J);have B:=HC.o k;clear u;generalize L:c k=x at p B;have F:=qH L;clear L;by_cases z:0<x
    · have G:=a.o.2.2.size
      have hw:IntKind.u64.wrap (x:Int)=(x:Int):=(by rw[IntKind.wrap_u64];omega);have HO:=qH (show Ow W.heap.size (wr.alloc (.cells #[.int .u64 x,.int .i64 k,.pointer none] 386)) _ (lt3 m e) from a.o.1.alloc _);have HT:=qH (fp wr x k none);have HS:=qH (show W.heap.size<=(wr.alloc (.cells #[.int .u64 x,.int .i64 k,.pointer none] 386)).heap.size by simp;omega);have I:=qH (show(lt3 m e).length+1<=2000 by have:=a.o.2.1.le;rw[dV];omega);clear G;go_wp2_with (at_builtin;refine bN rfl _ _ rfl W.heap.size _ (lt3 m e) [(x,k,none)] rfl HO.o _ 0 1 _ rfl rfl HT.o I.o HS.o ?_;intro v2 w2 M g2 T Y;obtain⟨O2,Z⟩:=qh2 M T;clear M g2 T Y);go_roundw
      case rel=>
       refine⟨k+1,m+1,_,by go_num,by omega,qH ⟨by have:=O2.o;rw[yz] at this;exact this,?_,?_⟩⟩
       · have:=a.o.2.1.more (k:=k) (by rw[F.o];exact z)
         rw[F.o] at this;exact this
       · exact(a.o.2.2.alloc a.o.2.2.size _).trans Z.o
      case measure=>simp[intOf];omega
    · obtain rfl:x=0:=by omega
      go_wp2_with fail;go_roundw
      case rel=>exact⟨k+1,m,e,by go_num,by omega,qH ⟨a.o.1,a.o.2.1.skip F.o,a.o.2.2⟩⟩
      case measure=>simp[intOf];omega
  · obtain rfl:k=n:=by omega
    rcases a.o.1.form with⟨rfl,q⟩|⟨g,d,rfl,X,a0⟩
    · have z:=congrArg List.length q
      rw[dV] at z;obtain rfl:m=0:=z;have C:=qH (a.o.2.1.lv (e':=e) (λi j q Q h3=>by omega) ⟨λi q Q=>by omega,λi q Q=>by omega⟩);clear q;go_wp2_with fail;refine(sP 0 _ _).mono ?_;rintro x E ⟨rfl,rfl⟩;go_wp2_with fail;go_ret;exact⟨_,_,_,_,rfl,qR,C.o,λh=>absurd h (by omega),a.o.2.2⟩
    · rw[dV] at a ⊢
      have C:=qH a.o.1.lfs;have y:=a.o.2.1;have HI:=qH y.inc;have s:=qH a.o.1.cap.2.1;have I:=qH (show m<=400 by have:=y.le;omega);have D:=qH (hs m e y);clear y;go_wp2_with fail;refine(xl g m d e _ I.o HI.o C.o (D.o)).mono ?_;rintro x E ⟨rfl,R,U,O,V,S⟩;have K:=qH (show gJ c k m R/\(0<m->∃b,some (⟨g,0,none⟩:Addr)=some ⟨b,0,none⟩/\Lfs E b m R)/\Below W.heap.size W E from⟨a.o.2.1.lv O V,λ_=>⟨g,rfl,U⟩,a.o.2.2.trans (S.below a.o.2.2.size (λj hj=>by rw[hj];exact X))⟩);clear U O V S;go_wp2_with fail;go_ret;exact⟨_,_,_,_,rfl,s.o,K.o.1,K.o.2.1,K.o.2.2⟩
def tp0:Tp:=(.lf 0 0,none)
def tL(x:Tp)(j:Nat):Value:=if j=0 then .int .u64 x.1.wt else if j=1 then .int .i64 x.1.sy else .pointer x.2
def cQ(w:World)(g:Nat)(T:TypeId)(n:Nat)(X:Nat->Tp):Prop:=w.rowIs g T (n*3) (λj=>tL (X (j/3)) (j%3))
section
variable {w w':World} {g n:Nat} {T:TypeId} {X Y:Nat->Tp}
theorem cQ.congr(h:cQ w g T n X)(e:∀i,i<n->X i=Y i):cQ w g T n Y:=World.rowIs.congr h (λj a=>by rw[e (j/3) (by omega)])
theorem cQ.lt(h:cQ w g T n X):g<w.heap.size:=World.rowIs.lt h
theorem cQ.alloc(h:cQ w g T n X)(o:Obj):cQ (w.alloc o) g T n X:=World.rowIs.alloc h o
theorem cQ.other(h:cQ w g T n X){a:Addr}(b:g≠a.block)(v:Value):cQ (w.setCell a v) g T n X:=World.rowIs.setOther h b v
theorem cQ.drew(h:cQ w g T n X):cQ w.drew g T n X:=h
theorem cQ.frozen(h:cQ w g T n X)(i:Nat):w.frozen? ⟨g,i,none⟩=false:=World.rowIs.frozen h i
theorem cQ.cells(h:cQ w g T n X){i:Nat}(hi:i<n):w.cell? ⟨g,i*3,none⟩=some (.int .u64 (X i).1.wt)/\w.cell? ⟨g,i*3+1,none⟩=some (.int .i64 (X i).1.sy)/\w.cell? ⟨g,i*3+2,none⟩=some (.pointer (X i).2):=by
 have k:=λj (a:j<n*3)=>World.rowIs.cell (w:=w) h a
 refine⟨?_,?_,?_⟩
 · rw[k _ (by omega),show i*3/3=i by omega,show i*3%3=0 by omega];rfl
 · rw[k _ (by omega),show(i*3+1) /3=i by omega,show(i*3+1)%3=1 by omega];rfl
 · rw[k _ (by omega),show(i*3+2) /3=i by omega,show(i*3+2)%3=2 by omega];rfl
theorem cQ.set(h:cQ w g T n X)(i:Nat)(x:Tp):cQ (((w.setCell ⟨g,i*3,none⟩ (.int .u64 x.1.wt)).setCell ⟨g,i*3+1,none⟩ (.int .i64 x.1.sy)).setCell ⟨g,i*3+2,none⟩ (.pointer x.2)) g T n (λt=>if t=i then x else X t):=by
 refine World.rowIs.congr (((World.rowIs.set h (i*3) (.int .u64 x.1.wt)).set (i*3+1) (.int .i64 x.1.sy)).set (i*3+2) (.pointer x.2)) (λj b=> ?_);have a:j%3=0\/j%3=1\/j%3=2:=(by omega);by_cases q:j/3=i
 · rcases a with r|r|r
   · rw[A0 (by omega),A0 (by omega),A7 (by omega),r];simp only[A7 q];rfl
   · rw[A0 (by omega),A7 (by omega),r];simp only[A7 q];rfl
   · rw[A7 (by omega),r];simp only[A7 q];rfl
 · rw[A0 (by omega),A0 (by omega),A0 (by omega)]
   simp only[A0 q]
theorem cQ.trs(h:cQ w g T n X)(l:List Tp)(c:l.length<=n)(e:∀i x,l[i]? =some x->X i=x):Trs w g 0 (l.map tr):=λi t hi=>by
 rw[Am] at hi;cases a:l[i]? with
 |none=>rw[a] at hi;cases hi
 |some x=>
  rw[a] at hi;obtain rfl:tr x=t:=by simpa using hi
  have b:=(An.1 a).1;have:=h.cells (show i<n by omega);rw[e i x a] at this;rw[Aa];exact this
end
theorem cQ.made1(w:World)(n:Nat):cQ (w.alloc (.cells (madeCells #[.int .u64 0,.int .i64 0,.pointer none] (n*3)) 386)) w.heap.size 386 n (λ_=>tp0):=by
 have h:=World.rowIs_alloc w (madeCells #[.int .u64 0,.int .i64 0,.pointer none] (n*3)) 386 (λj=>tL tp0 (j%3)) (λj a=>by
  rw[size_madeCells] at a;have b:j%3=0\/j%3=1\/j%3=2:=(by omega);rcases b with r|r|r<;>simp[madeCells,a,r,tL,tp0,Th.wt,Th.sy])
 rw[size_madeCells] at h;exact h
theorem cQ.made2(w:World)(n:Nat):cQ (w.alloc (.cells (madeCells #[.int .u64 0,.int .i64 0,.pointer none,.int .u64 0,.int .i64 0,.pointer none] (n*6)) 432)) w.heap.size 432 (2*n) (λ_=>tp0):=by
 have h:=World.rowIs_alloc w (madeCells #[.int .u64 0,.int .i64 0,.pointer none,.int .u64 0,.int .i64 0,.pointer none] (n*6)) 432 (λj=>tL tp0 (j%3)) (λj a=>by
  rw[size_madeCells] at a;have b:(j%6=0/\j%3=0)\/(j%6=1/\j%3=1)\/(j%6=2/\j%3=2)\/(j%6=3/\j%3=0)\/(j%6=4/\j%3=1)\/(j%6=5/\j%3=2):=(by omega);rcases b with⟨r,s⟩|⟨r,s⟩|⟨r,s⟩|⟨r,s⟩|⟨r,s⟩|⟨r,s⟩<;>simp[madeCells,a,r,s,tL,tp0,Th.wt,Th.sy])
 rw[size_madeCells] at h;unfold cQ;rw[show 2*n*3=n*6 by omega];exact h
def pkt(gp:Nat)(R:List Tp):List Tp:=(List.range (R.length/2)).map λi=>(.pk (R.getD (2*i) tp0).1 (R.getD (2*i+1) tp0).1,some ⟨gp,i*6,none⟩)
theorem bR(a:Nat)(R:List Tp):(pkt a R).length=R.length/2:=by unfold pkt;simp
theorem oe(a:Nat)(R:List Tp){i:Nat}(h:i<R.length/2):(pkt a R)[i]? =some (.pk (R.getD (2*i) tp0).1 (R.getD (2*i+1) tp0).1,some ⟨a,i*6,none⟩):=by unfold pkt;simp[h]
theorem Ea:∀ (R:List Th) (i:Nat),i<R.length/2->(pks R)[i]? =some (.pk (R.getD (2*i) (.lf 0 0)) (R.getD (2*i+1) (.lf 0 0)))
 |[],i,h=>by simp at h
 |[a],i,h=>by simp at h
 |a::b::r,0,h=>by simp[pks]
 |a::b::r,i+1,h=>by
  simp only[qC] at h;rw[pks,C0,Ea r i (by omega),show 2*(i+1)=2*i+1+1 by omega];simp
theorem oS(R:List Tp)(i:Nat):(R.map (·.1)).getD i (.lf 0 0)=(R.getD i tp0).1:=by
 rw[List.getD,List.getD,Am];cases R[i]? <;>rfl
theorem Ge(a:Nat)(R:List Tp):(pkt a R).map (·.1)=pks (R.map (·.1)):=by
 apply D8
 intro i;rw[Am];by_cases h:i<R.length/2
 · rw[oe a R h,Ea _ i (by simpa using h),oS,oS];rfl
 · rw[BW (by rw[bR];omega),BW (by rw[cB,Ah];omega)];rfl
def prX(R:List Tp)(k i:Nat):Tp:=if i<2*k then R.getD i tp0 else tp0
def pkX(gp:Nat)(R:List Tp)(k i:Nat):Tp:=if i<k then(.pk (R.getD (2*i) tp0).1 (R.getD (2*i+1) tp0).1,some ⟨gp,i*6,none⟩) else tp0
theorem xQ(A:Option Addr)(n c base:Nat)(R:List Tp)(W:World)(hl:R.length=n)(hn:n<=1000)(E:base<=W.heap.size)(hw:∀x∈R,x.1.wt<=1125899906842624)(H:aK W base A R):
 Calls prog 325 #[.slice A n c] W λx w'=> ∃g gp,x=.returned (.slice (some ⟨g,0,none⟩) (n/2) (n/2))/\aK w' base (some ⟨g,0,none⟩) (pkt gp R)/\Below W.heap.size W w':=by
 obtain⟨np,s⟩:∃np,n/2=np:=⟨_,rfl⟩
 have e1:(n:Int) /2=(np:Int):=(by omega);obtain⟨HP,HL,HA,HW,HB⟩:=qh5 s hl H hw E;have an:np<=500:=(by omega);have m1:=λw=>eG w underlying431 xV (by decide) np np qR (by omega)
 have m2:=λw=>eG w underlying382 fi (by decide) np np qR (by omega)
 clear s hl H hw E;go_enter func325,ntmps325;go_wp2_with fail;clear m1 m2
 go_loopw [15] (λi wr=> ∃k:Nat,k<=np/\i=.int .i64 k/\cQ wr W.heap.size 432 (2*np) (prX R k)/\cQ wr (W.heap.size+1) 386 np (pkX W.heap.size R k)/\Below W.heap.size W wr) (λi _=>np - (intOf i).toNat)
 case atStart=>
  refine⟨0,qZ,rfl,((cQ.made2 W np).alloc _).congr (λi _=>by unfold prX;rw[A0 (by omega)]),?_,(qL).alloc (by simp) _⟩;have h:=cQ.made1 (W.alloc (.cells (madeCells #[.int .u64 0,.int .i64 0,.pointer none,.int .u64 0,.int .i64 0,.pointer none] (np*6)) 432)) np;rw[show(W.alloc (.cells (madeCells #[.int .u64 0,.int .i64 0,.pointer none,.int .u64 0,.int .i64 0,.pointer none] (np*6)) 432)).heap.size=W.heap.size+1 by simp] at h;exact h.congr (λi _=>by unfold pkX;rw[A0 (by omega)])
 case round=>
  obtain⟨k,hk,rfl,m,z,C⟩:=hrel;by_cases a9:k<np
  · have aj:=HL.o
    have s:=HP.o;obtain⟨u,hu⟩:∃u,2*k=u:=⟨_,rfl⟩
    obtain⟨v,hv⟩:∃v,u+1=v:=⟨_,rfl⟩
    have P:u<R.length:=(by omega);have N:v<R.length:=(by omega);obtain⟨b,o,rfl,j,ht⟩:=HA.o.1 (by omega);have x1:=ht.one (qE P);have Z:=ht.one (qE N);have gx:R.getD u tp0=R[u]:=(by rw[List.getD,qE P];rfl);have gy:R.getD v tp0=R[v]:=(by rw[List.getD,qE N];rfl);have a5:=HW.o _ (AW P);have ad:=HW.o _ (AW N);obtain⟨x,I⟩:∃x,R[u]=x:=⟨_,rfl⟩
    obtain⟨y,hy⟩:∃y,R[v]=y:=⟨_,rfl⟩
    rw[I] at x1 gx a5;rw[hy] at Z gy ad;obtain⟨x1,x2,x3⟩:=x1;obtain⟨Z,y2,y3⟩:=Z;have S:=(C.cell j).trans x1;have a7:=(C.cell j).trans x2;have a8:=(C.cell j).trans x3;have L:=(C.cell j).trans Z;have a6:=(C.cell j).trans y2;have a4:=(C.cell j).trans y3;clear x1 x2 x3 Z y2 y3 ht I hy P N;have d:=(m.set (2*k) x).set (2*k+1) y;rw[show 2*k*3=k*6 by omega,show(2*k+1)*3=k*6+3 by omega] at d;have ai:=z.set k (.pk x.1 y.1,some ⟨W.heap.size,k*6,none⟩);obtain⟨c1,c2,c3⟩:=m.cells (show 2*k<2*np by omega);obtain⟨c4,c5,c6⟩:=m.cells (show 2*k+1<2*np by omega);rw[show 2*k*3=k*6 by omega] at c1 c2 c3;rw[show(2*k+1)*3=k*6+3 by omega] at c4 c5 c6;obtain⟨d1,d2,d3⟩:=z.cells (show k<np by omega);have f1:=m.frozen (k*6);have f2:=m.frozen (k*6+1);have f3:=m.frozen (k*6+2);have f4:=m.frozen (k*6+3);have f5:=m.frozen (k*6+3+1);have f6:=m.frozen (k*6+3+2);have f7:=z.frozen (k*3);have f8:=z.frozen (k*3+1);have f9:=z.frozen (k*3+2);have w1:IntKind.i64.wrap (2*(k:Int))=(u:Int):=(by rw[IntWalk.i64_in _ (by omega)];omega);have w3:2*(k:Int)=(u:Int):=(by omega);have w4:(u:Int)+1=(v:Int):=(by omega);have w5:IntKind.i64.wrap (u:Int)=(u:Int):=IntWalk.i64_in _ (by omega);have w6:IntKind.i64.wrap (v:Int)=(v:Int):=IntWalk.i64_in _ (by omega);have w7:((u:Int)).toNat=u:=(by omega);have w8:((v:Int)).toNat=v:=(by omega);obtain⟨G,Q⟩:∃t,x.1.wt=t:=⟨_,rfl⟩
    obtain⟨xs,a0⟩:∃t,x.1.sy=t:=⟨_,rfl⟩
    obtain⟨xp,ac⟩:∃t,x.2=t:=⟨_,rfl⟩
    obtain⟨yw,U⟩:∃t,y.1.wt=t:=⟨_,rfl⟩
    obtain⟨ys,ab⟩:∃t,y.1.sy=t:=⟨_,rfl⟩
    obtain⟨yp,aa⟩:∃t,y.2=t:=⟨_,rfl⟩
    rw[Q] at S a5 d;rw[a0] at a7 d;rw[ac] at a8 d;rw[U] at L ad d;rw[ab] at a6 d;rw[aa] at a4 d;have un:u<n:=(by omega);have vn:v<n:=(by omega);have q4:k*6+3+1=k*6+4:=rfl;have q5:k*6+3+2=k*6+5:=rfl;rw[q4,q5] at d;rw[q4] at c5 f5;rw[q5] at c6 f6;have K:(x.1.pk y.1).wt=G+yw:=(by simp only[Th.wt];rw[Q,U]);have ae:=z.set k (.pk x.1 y.1,some ⟨W.heap.size,k*6,none⟩);obtain⟨W6,D⟩:∃w6,((((((wr.setCell ⟨W.heap.size,k*6,none⟩ (.int .u64 G)).setCell ⟨W.heap.size,k*6+1,none⟩ (.int .i64 xs)).setCell ⟨W.heap.size,k*6+2,none⟩ (.pointer xp)).setCell ⟨W.heap.size,k*6+3,none⟩ (.int .u64 yw)).setCell ⟨W.heap.size,k*6+4,none⟩ (.int .i64 ys)).setCell ⟨W.heap.size,k*6+5,none⟩ (.pointer yp))=w6:=⟨_,rfl⟩
    rw[D] at d;have F:Below W.heap.size W W6:=by
     rw[<-D];exact(((((C.setCell qR _).setCell qR _).setCell qR _).setCell qR _).setCell qR _).setCell qR _
    have B:cQ W6 (W.heap.size+1) 386 np (pkX W.heap.size R k):=by
     rw[<-D];exact(((((z.other (by simp) _).other (by simp) _).other (by simp) _).other (by simp) _).other (by simp) _).other (by simp) _
    obtain⟨au,ar,ao⟩:=B.cells (show k<np by omega);have ap:=B.frozen (k*3);have av:=B.frozen (k*3+1);have aq:=B.frozen (k*3+2);have z1:W6.cell? ⟨b,o+u*3,none⟩=some (.int .u64 G):=(F.cell j).trans ((C.cell j).symm.trans S);have z2:W6.cell? ⟨b,o+v*3,none⟩=some (.int .u64 yw):=(F.cell j).trans ((C.cell j).symm.trans L);have O:=B.set k (.pk x.1 y.1,some ⟨W.heap.size,k*6,none⟩);rw[show((Th.pk x.1 y.1,some (⟨W.heap.size,k*6,none⟩:Addr)):Tp).1.wt=G+yw from K,show((Th.pk x.1 y.1,some (⟨W.heap.size,k*6,none⟩:Addr)):Tp).1.sy=0 from rfl] at O;have ah:=qH (O.congr (Y:=pkX W.heap.size R (k+1)) (λi _=>by
     unfold pkX;by_cases q:i=k
     · subst q;rw[A7 rfl,A7 (by omega),hu,hv,gx,gy]
     · rw[A0 q]
       by_cases V:i<k
       · rw[A7 V,A7 (by omega)]
       · rw[A0 V,A0 (by omega)]))
    have al:=qH ((d.other (a:=⟨W.heap.size+1,k*3,none⟩) (by simp) (.int .u64 ((G+yw:Nat):Int))).other (a:=⟨W.heap.size+1,k*3+1,none⟩) (by simp) (.int .i64 ((0:Nat):Int))|>.other (a:=⟨W.heap.size+1,k*3+2,none⟩) (by simp) (.pointer (some ⟨W.heap.size,k*6,none⟩))|>.congr (Y:=prX R (k+1)) (λi _=>by
     unfold prX;by_cases q:i=2*k+1
     · rw[A7 q,A7 (by omega),q,hu,hv,gy]
     · rw[A0 q]
       by_cases V:i=2*k
       · rw[A7 V,A7 (by omega),V,hu,gx]
       · rw[A0 V]
         by_cases q3:i<2*k
         · rw[A7 q3,A7 (by omega)]
         · rw[A0 q3,A0 (by omega)]))
    have am:=qH (((F.setCell (p:=⟨W.heap.size+1,k*3,none⟩) (by simp) (.int .u64 ((G+yw:Nat):Int))).setCell (p:=⟨W.heap.size+1,k*3+1,none⟩) (by simp) (.int .i64 ((0:Nat):Int))).setCell (p:=⟨W.heap.size+1,k*3+2,none⟩) (by simp) (.pointer (some ⟨W.heap.size,k*6,none⟩)));have w9:IntKind.u64.wrap ((G:Int)+(yw:Int))=((G+yw:Nat):Int):=(by rw[IntKind.wrap_u64];omega);have af:=qH D;clear d ai ae O B F m z C K hu hv gx gy Q a0 ac U ab aa aj s q4 q5 D a9;have a9:k<np:=(by omega);go_wp2_with fail
    go_region
    rw[af.o];clear c1 c2 c3 c4 c5 c6 d1 d2 d3 f1 f2 f3 f4 f5 f6 f7 f8 f9 S a7 a8 L a6 a4;go_wp2_with fail
    go_region
    go_wp2_with fail;go_roundw
    case rel=>exact⟨k+1,by omega,by go_num,al.o.drew,ah.o.drew,am.o.drew.drew⟩
    case measure=>simp[intOf];omega
  · obtain rfl:k=np:=by omega
    obtain⟨HQ,ag,M⟩:=qh3 z m C;clear m z C;go_wp2_with fail;go_ret;have z:=HQ.o;have m:=ag.o;have hR:=HL.o;have s:=HP.o;have J:(pkt W.heap.size R).length=k:=(by rw[bR];omega);rw[s];refine⟨_,W.heap.size,rfl,⟨λ_=>⟨_,0,rfl,z.lt,z.trs _ (by omega) (λi x I=> ?_)⟩,λx I=> ?_⟩,M.o⟩
    · have hi:=(An.1 I).1
      rw[J] at hi;rw[oe _ _ (by omega)] at I;unfold pkX;rw[A7 hi];exact Option.some.inj I
    · obtain⟨i,hi,rfl⟩:=Cm I
      have ak:=hi;rw[J] at ak;have e:=oe W.heap.size R (i:=i) (by omega);rw[qE hi] at e;rw[Option.some.inj e];have P:2*i<R.length:=(by omega);have N:2*i+1<R.length:=(by omega);obtain⟨a1,a2,a3⟩:=m.cells (show 2*i<2*k by omega);obtain⟨b1,b2,b3⟩:=m.cells (show 2*i+1<2*k by omega);unfold prX at a1 a2 a3 b1 b2 b3;rw[A7 (by omega)] at a1 a2 a3 b1 b2 b3;rw[show 2*i*3=i*6 by omega] at a1 a2 a3;rw[show(2*i+1)*3=i*6+3 by omega] at b1 b2 b3;have m1:R.getD (2*i) tp0∈R:=(by rw[List.getD,qE P];exact AW P);have m2:R.getD (2*i+1) tp0∈R:=(by rw[List.getD,qE N];exact AW N);exact⟨_,_,_,_,rfl,HB.o,m.lt,⟨a1,a2,a3⟩,⟨b1,b2,b3⟩,(HA.o.2 _ m1).below M.o,(HA.o.2 _ m2).below M.o⟩
def mr2(L P:List Tp):List Tp:=match L,P with
 |[],P=>P
 |l::L,[]=>l::L
 |l::L,p::P=>if p.1.wt<l.1.wt then p::mr2 (l::L) P else l::mr2 L (p::P)
termination_by L.length+P.length
theorem mh(P:List Tp):mr2 [] P=P:=by rw[mr2]
theorem eJ(L:List Tp):mr2 L []=L:=by cases L<;>rw[mr2]
theorem eK(l p:Tp)(L P:List Tp):mr2 (l::L) (p::P)=if p.1.wt<l.1.wt then p::mr2 (l::L) P else l::mr2 L (p::P):=by rw[mr2]
theorem ja:∀ (L P:List Tp),(mr2 L P).map (·.1)=mrg (L.map (·.1)) (P.map (·.1))
 |[],P=>by rw[mh,Av,j8]
 |l::L,[]=>by rw[eJ,Av,cC]
 |l::L,p::P=>by
  rw[eK,Al,Al,dy];by_cases h:p.1.wt<l.1.wt
  · rw[A7 h,A7 h,Al,ja (l::L) P,Al]
  · rw[A0 h,A0 h,Al,ja L (p::P),Al]
termination_by L P=>L.length+P.length
theorem mi(x:Tp):∀ (L P:List Tp),x∈mr2 L P->x∈L\/x∈P
 |[],P,h=>by rw[mh] at h;exact .inr h
 |l::L,[],h=>by rw[eJ] at h;exact .inl h
 |l::L,p::P,h=>by
  rw[eK] at h;by_cases q:p.1.wt<l.1.wt
  · rw[A7 q] at h
    rcases Ab.1 h with rfl|h
    · exact .inr Aq
    · rcases mi x (l::L) P h with h|h
      · exact .inl h
      · exact .inr (AK _ h)
  · rw[A0 q] at h
    rcases Ab.1 h with rfl|h
    · exact .inl Aq
    · rcases mi x L (p::P) h with h|h
      · exact .inl (AK _ h)
      · exact .inr h
termination_by L P=>L.length+P.length
theorem aU(L P:List Tp):(mr2 L P).length=L.length+P.length:=by
 have:=congrArg List.length (ja L P);rw[Ah,aN,Ah,Ah] at this;exact this
theorem ox{L P:List Tp}{l p:Tp}{i j:Nat}(c:L[i]? =some l)(a:P[j]? =some p)(h:p.1.wt<l.1.wt):mr2 (L.drop i) (P.drop j)=p::mr2 (L.drop i) (P.drop (j+1)):=by
 obtain⟨hi,rfl⟩:=An.1 c;obtain⟨b,rfl⟩:=An.1 a;rw[Co hi,Co b,eK,A7 h]
theorem oy{L P:List Tp}{l:Tp}{i j:Nat}(b:L[i]? =some l)(h:∀p,P[j]? =some p->¬p.1.wt<l.1.wt):mr2 (L.drop i) (P.drop j)=l::mr2 (L.drop (i+1)) (P.drop j):=by
 obtain⟨hi,rfl⟩:=An.1 b;rw[Co hi];by_cases a:j<P.length
 · rw[Co a,eK,A0 (h _ (qE a))]
 · rw[show P.drop j=[] from Dx (by omega),eJ,eJ]
theorem ue(A:Option Addr)(n c base g np:Nat)(L P:List Tp)(W:World)(hl:L.length=n)(ak:P.length=np)(hn:n<=400)(ar:np<=600)(HL:aK W base A L)(HP:aK W base (some ⟨g,0,none⟩) P)
 (wl:∀x∈L,x.1.wt<=1125899906842624) (wp:∀x∈P,x.1.wt<=1125899906842624):
 Calls prog 324 #[.slice A n c,.slice (some ⟨g,0,none⟩) np np] W λx w'=> ∃A' Z,x=.returned (.slice A' (n+np) Z)/\aK w' base A' (mr2 L P)/\(∀b o,A'=some ⟨b,o,none⟩->W.heap.size<=b)/\(n+np<=Z)/\Below W.heap.size W w':=by
 obtain⟨s,hs⟩:∃s,n+np=s:=⟨_,rfl⟩
 have e1:(n:Int)+(np:Int)=(s:Int):=by omega
 have m1:∀w,(Instr.makeSlice 382 (.int .i64 0) (.int .i64 (s:Int))).run prog w=.ok (.slice (some ⟨w.heap.size,0,none⟩) 0 s) (w.alloc (.cells (madeCells #[.int .u64 0,.int .i64 0,.pointer none] (s*3)) 386)):=λw=>
  eG w underlying382 fi (by decide) 0 s qZ (by omega)
 obtain⟨KL,KP,NL,NP,WL,WP,HS⟩:=qh7 HL HP hl ak wl wp hs;have au:s<=1000:=(by omega);clear HL HP hl ak wl wp hs;go_enter func324,ntmps324;go_wp2_with fail;clear m1;have HO:Hd (Ow W.heap.size (W.alloc (.cells (madeCells #[.int .u64 0,.int .i64 0,.pointer none] (s*3)) 386)) (.slice (some ⟨W.heap.size,0,none⟩) 0 s) (([]:List Tp).map tr)):=qH (World.ownsRow_made W _ s qR (by unfold maxLen;omega) (size_madeCells _ _))
 go_loopw [16,5,1] (λx v pv wr=> ∃ (i j r E:Nat) (d:List Tp),x=.int .i64 i/\pv=.slice (some ⟨g,E,none⟩) r r/\i<=n/\j+r=np/\Hd ((0<r->E=j*3)/\Ow W.heap.size wr v (d.map tr)/\d++mr2 (L.drop i) (P.drop j)=mr2 L P/\Below W.heap.size W wr)) (λx _ _ _=>n - (intOf x).toNat)
 case atStart=>exact⟨0,0,np,0,[],rfl,rfl,qZ,by omega,qH ⟨λ_=>rfl,HO.o,rfl,qL⟩⟩
 case round=>
  obtain⟨i,j,r,E,d,rfl,rfl,q1,q2,F⟩:=hrel;by_cases c1:i<n
  · have an:=NL.o
    obtain⟨b,o,rfl,a8,ht⟩:=KL.o.1 (by omega);have li:i<L.length:=(by omega);obtain⟨x,hx⟩:∃x,L[i]? =some x:=⟨_,qE li⟩
    obtain⟨x1,x2,x3⟩:=ht.one hx;have ao:=WL.o x (BP hx);have D:=F.o.2.2.2;have x1:=(D.cell a8).trans x1;have x2:=(D.cell a8).trans x2;have x3:=(D.cell a8).trans x3;obtain⟨Q,ac⟩:∃t,x.1.wt=t:=⟨_,rfl⟩
    obtain⟨S,aa⟩:∃t,x.1.sy=t:=⟨_,rfl⟩
    obtain⟨R,ae⟩:∃t,x.2=t:=⟨_,rfl⟩
    rw[ac] at x1 ao;rw[aa] at x2;rw[ae] at x3;have HX:=qH (And.intro hx (And.intro ac (And.intro aa ae)));obtain⟨B0,al⟩:∃B0,wr.heap.size=B0:=⟨_,rfl⟩
    have K:=qH al;clear ht an li hx ac aa ae D;go_wp2_with fail;clear al;clear x1 x2 x3
    go_loopw [5,1] (λv pv ws=> ∃ (j r E:Nat) (d:List Tp),pv=.slice (some ⟨g,E,none⟩) r r/\j+r=np/\ws.cell? ⟨B0,0,none⟩=some (.int .u64 Q)/\ws.cell? ⟨B0,1,none⟩=some (.int .i64 S)/\ws.cell? ⟨B0,2,none⟩=some (.pointer R)/\
     Hd ((0<r->E=j*3)/\Ow W.heap.size ws v (d.map tr)/\d++mr2 (L.drop i) (P.drop j)=mr2 L P/\Below W.heap.size W ws/\v.ownBlock≠some B0/\B0<ws.heap.size/\d.length<=1000)) (λ_ pv _=>match pv with|.slice _ r _=>r|_=>0)
    case atStart=>
     refine⟨j,r,E,d,rfl,q2,by have:=K.o;subst this;simp,by have:=K.o;subst this;simp,by have:=K.o;subst this;simp,qH ⟨F.o.1,F.o.2.1.alloc _,F.o.2.2.1,F.o.2.2.2.alloc F.o.2.2.2.size _,λe=> ?_,by have:=K.o;simp;omega,?_⟩⟩
     · have:=(F.o.2.1.lt _ e).2
       have:=K.o;omega
     · have:=congrArg List.length F.o.2.2.1
       rw[qA,aU L P,NL.o,NP.o] at this;have:=HS.o;omega
    case round=>
     obtain⟨j,r,E,d,rfl,q2,b1,b2,b3,k⟩:=hrel;by_cases c2:0<r
     · have a9:=NP.o
       obtain⟨g',o',C,I,ht⟩:=KP.o.1 (by omega);obtain⟨rfl,rfl⟩:g=g'/\o'=0:=by simp at C;exact⟨C.1,C.2.symm⟩
       obtain⟨p,hp⟩:∃p,P[j]? =some p:=⟨_,qE (show j<P.length by omega)⟩
       obtain⟨y1,y2,y3⟩:=ht.one hp;have J:=k.o.1 c2;rw[Aa,<-J] at y1 y2 y3;have ap:=WP.o p (BP hp);have D:=k.o.2.2.2.1;have y1:=(D.cell I).trans y1;have y2:=(D.cell I).trans y2;have y3:=(D.cell I).trans y3;obtain⟨yw,ai⟩:∃t,p.1.wt=t:=⟨_,rfl⟩
       obtain⟨ys,ad⟩:∃t,p.1.sy=t:=⟨_,rfl⟩
       obtain⟨yp,ab⟩:∃t,p.2=t:=⟨_,rfl⟩
       rw[ai] at y1 ap;rw[ad] at y2;rw[ab] at y3;have HY:=qH (And.intro hp (And.intro ai (And.intro ad ab)));have am:=qH J;have aq:=D.size;clear ht a9 hp ai ad ab D J C;clear x1 x2 x3;by_cases c3:yw<Q
       · by_cases c4:1=r
         · subst c4
           go_wp2_with fail
           go_quiet (fail)
           have m:=qH (show Ow W.heap.size ((wr.drewN nq).alloc (.cells #[.int .u64 yw,.int .i64 ys,.pointer yp] 386)) _ (d.map tr) from(k.o.2.1.drewN nq).alloc _);have z:=qH (fp (wr.drewN nq) yw ys yp);have q:=qH (show W.heap.size<=((wr.drewN nq).alloc (.cells #[.int .u64 yw,.int .i64 ys,.pointer yp] 386)).heap.size by simp;omega);have u:=qH (show(d.map tr).length+1<=2000 by have:=k.o.2.2.2.2.2.2;rw[Ah];omega);go_wp2_with (at_builtin;refine bN rfl _ _ rfl W.heap.size _ (d.map tr) [(yw,ys,yp)] rfl m.o _ 0 1 _ rfl rfl z.o u.o q.o ?_;intro v2 V y B G O;obtain⟨O2,G2,U,K2⟩:=qh4 y B G O;have ag:=((World.cell?_of_block (a:=⟨B0,0,none⟩) (B.block B0 (by have:=k.o.2.2.2.2.2.1;simp;omega) (λe=>k.o.2.2.2.2.1 e.symm))).trans (((Below.refl (wr.drewN nq).heap.size (wr.drewN nq)).alloc qR _).cell (by have:=k.o.2.2.2.2.2.1;simp;omega))).trans b1;have ah:=((World.cell?_of_block (a:=⟨B0,1,none⟩) (B.block B0 (by have:=k.o.2.2.2.2.2.1;simp;omega) (λe=>k.o.2.2.2.2.1 e.symm))).trans (((Below.refl (wr.drewN nq).heap.size (wr.drewN nq)).alloc qR _).cell (by have:=k.o.2.2.2.2.2.1;simp;omega))).trans b2;have af:=((World.cell?_of_block (a:=⟨B0,2,none⟩) (B.block B0 (by have:=k.o.2.2.2.2.2.1;simp;omega) (λe=>k.o.2.2.2.2.1 e.symm))).trans (((Below.refl (wr.drewN nq).heap.size (wr.drewN nq)).alloc qR _).cell (by have:=k.o.2.2.2.2.2.1;simp;omega))).trans b3;clear y B G O);go_roundw
           case rel=>
            obtain⟨a1,a2,a3,H,a5,a6,a7⟩:=k.o;obtain⟨p1,p2,p3,p4⟩:=HY.o;obtain⟨l1,l2,l3,l4⟩:=HX.o;have J:=am.o;have hq:d++[p]++mr2 (L.drop i) (P.drop (j+1))=mr2 L P:=by
             rw[qD,CG,<-ox l1 p1 (by rw[p2,l2];exact c3)];exact a3
            refine⟨j+1,0,E,d++[p],rfl,by omega,ag,ah,af,qH ⟨λh=>by omega,?_,hq,((aj H nq).alloc (by have:=H.size;simpa using this) _).trans U.o,λe=> ?_,?_,?_⟩⟩
            · have:=O2.o
              rw[Aw];show Ow W.heap.size V v2 (d.map tr++[(p.1.wt,p.1.sy,p.2)])
              rw[p2,p3,p4];exact this
            · rcases K2.o with h|h
              · rw[h] at e;exact a5 e
              · rw[h] at e
                have:=Option.some.inj e;simp at this;omega
            · have:=G2.o.size
              simp at this;omega
            · have h1:=congrArg List.length hq
              rw[qA,aU L P,NL.o,NP.o] at h1;have:=HS.o;omega
           case measure=>simp<;>omega
         · have c5:¬r=1:=λe=>c4 e.symm
           have v1:(r:Int) - 1=((r - 1:Nat):Int):=(by omega);go_wp2_with fail
           go_quiet (fail)
           have m:=qH (show Ow W.heap.size ((wr.drewN nq).alloc (.cells #[.int .u64 yw,.int .i64 ys,.pointer yp] 386)) _ (d.map tr) from(k.o.2.1.drewN nq).alloc _);have z:=qH (fp (wr.drewN nq) yw ys yp);have q:=qH (show W.heap.size<=((wr.drewN nq).alloc (.cells #[.int .u64 yw,.int .i64 ys,.pointer yp] 386)).heap.size by simp;omega);have u:=qH (show(d.map tr).length+1<=2000 by have:=k.o.2.2.2.2.2.2;rw[Ah];omega);go_wp2_with (at_builtin;refine bN rfl _ _ rfl W.heap.size _ (d.map tr) [(yw,ys,yp)] rfl m.o _ 0 1 _ rfl rfl z.o u.o q.o ?_;intro v2 V y B G O;obtain⟨O2,G2,U,K2⟩:=qh4 y B G O;have ag:=((World.cell?_of_block (a:=⟨B0,0,none⟩) (B.block B0 (by have:=k.o.2.2.2.2.2.1;simp;omega) (λe=>k.o.2.2.2.2.1 e.symm))).trans (((Below.refl (wr.drewN nq).heap.size (wr.drewN nq)).alloc qR _).cell (by have:=k.o.2.2.2.2.2.1;simp;omega))).trans b1;have ah:=((World.cell?_of_block (a:=⟨B0,1,none⟩) (B.block B0 (by have:=k.o.2.2.2.2.2.1;simp;omega) (λe=>k.o.2.2.2.2.1 e.symm))).trans (((Below.refl (wr.drewN nq).heap.size (wr.drewN nq)).alloc qR _).cell (by have:=k.o.2.2.2.2.2.1;simp;omega))).trans b2;have af:=((World.cell?_of_block (a:=⟨B0,2,none⟩) (B.block B0 (by have:=k.o.2.2.2.2.2.1;simp;omega) (λe=>k.o.2.2.2.2.1 e.symm))).trans (((Below.refl (wr.drewN nq).heap.size (wr.drewN nq)).alloc qR _).cell (by have:=k.o.2.2.2.2.2.1;simp;omega))).trans b3;clear y B G O);go_roundw
           case rel=>
            obtain⟨a1,a2,a3,H,a5,a6,a7⟩:=k.o;obtain⟨p1,p2,p3,p4⟩:=HY.o;obtain⟨l1,l2,l3,l4⟩:=HX.o;have J:=am.o;have hq:d++[p]++mr2 (L.drop i) (P.drop (j+1))=mr2 L P:=by
             rw[qD,CG,<-ox l1 p1 (by rw[p2,l2];exact c3)];exact a3
            refine⟨j+1,r - 1,E+3,d++[p],by simp,by omega,ag,ah,af,qH ⟨λh=>by omega,?_,hq,((aj H nq).alloc (by have:=H.size;simpa using this) _).trans U.o,λe=> ?_,?_,?_⟩⟩
            · have:=O2.o
              rw[Aw];show Ow W.heap.size V v2 (d.map tr++[(p.1.wt,p.1.sy,p.2)])
              rw[p2,p3,p4];exact this
            · rcases K2.o with h|h
              · rw[h] at e;exact a5 e
              · rw[h] at e
                have:=Option.some.inj e;simp at this;omega
            · have:=G2.o.size
              simp at this;omega
            · have h1:=congrArg List.length hq
              rw[qA,aU L P,NL.o,NP.o] at h1;have:=HS.o;omega
           case measure=>simp<;>omega
       · have HE:=qH (show d++[x]++mr2 (L.drop (i+1)) (P.drop j)=mr2 L P by
          rw[qD,CG,<-oy HX.o.1 (λp' N=>by
          rw[HY.o.1] at N;obtain rfl:=Option.some.inj N;rw[HY.o.2.1,HX.o.2.1];exact c3)];exact k.o.2.2.1)
         go_wp2_with fail
         go_quiet (fail)
         have m:=qH (show Ow W.heap.size ((wr.drewN nq).alloc (.cells #[.int .u64 Q,.int .i64 S,.pointer R] 386)) _ (d.map tr) from(k.o.2.1.drewN nq).alloc _);have z:=qH (fp (wr.drewN nq) Q S R);have q:=qH (show W.heap.size<=((wr.drewN nq).alloc (.cells #[.int .u64 Q,.int .i64 S,.pointer R] 386)).heap.size by have:=k.o.2.2.2.1.size;simp;omega);have u:=qH (show(d.map tr).length+1<=2000 by have:=k.o.2.2.2.2.2.2;rw[Ah];omega);go_wp2_with (at_builtin;refine bN rfl _ _ rfl W.heap.size _ (d.map tr) [(Q,S,R)] rfl m.o _ 0 1 _ rfl rfl z.o u.o q.o ?_;intro v2 V y B G O;obtain⟨O2,U⟩:=qh2 y G;clear y B G O);go_roundw
         case rel=>
          obtain⟨a1,a2,a3,H,a5,a6,a7⟩:=k.o;obtain⟨l1,l2,l3,l4⟩:=HX.o;refine⟨i+1,j,r,E,d++[x],by go_num,rfl,by omega,q2,qH ⟨a1,?_,HE.o,((aj H nq).alloc (by have:=H.size;simpa using this) _).trans U.o⟩⟩;have:=O2.o;rw[Aw];show Ow W.heap.size V v2 (d.map tr++[(x.1.wt,x.1.sy,x.2)])
          rw[l2,l3,l4];exact this
         case measure=>simp[intOf];omega
     · obtain rfl:r=0:=by omega
       have HE:=qH (show d++[x]++mr2 (L.drop (i+1)) (P.drop j)=mr2 L P by
        rw[qD,CG,<-oy HX.o.1 (λp' N=>by
        have a9:=NP.o;rw[BW (by omega)] at N;cases N)];exact k.o.2.2.1)
       go_wp2_with fail
       go_quiet (fail)
       have m:=qH (show Ow W.heap.size ((wr.drewN nq).alloc (.cells #[.int .u64 Q,.int .i64 S,.pointer R] 386)) _ (d.map tr) from(k.o.2.1.drewN nq).alloc _);have z:=qH (fp (wr.drewN nq) Q S R);have q:=qH (show W.heap.size<=((wr.drewN nq).alloc (.cells #[.int .u64 Q,.int .i64 S,.pointer R] 386)).heap.size by have:=k.o.2.2.2.1.size;simp;omega);have u:=qH (show(d.map tr).length+1<=2000 by have:=k.o.2.2.2.2.2.2;rw[Ah];omega);go_wp2_with (at_builtin;refine bN rfl _ _ rfl W.heap.size _ (d.map tr) [(Q,S,R)] rfl m.o _ 0 1 _ rfl rfl z.o u.o q.o ?_;intro v2 V y B G O;obtain⟨O2,U⟩:=qh2 y G;clear y B G O);go_roundw
       case rel=>
        obtain⟨a1,a2,a3,H,a5,a6,a7⟩:=k.o;obtain⟨l1,l2,l3,l4⟩:=HX.o;refine⟨i+1,j,0,E,d++[x],by go_num,rfl,by omega,q2,qH ⟨a1,?_,HE.o,((aj H nq).alloc (by have:=H.size;simpa using this) _).trans U.o⟩⟩;have:=O2.o;rw[Aw];show Ow W.heap.size V v2 (d.map tr++[(x.1.wt,x.1.sy,x.2)])
        rw[l2,l3,l4];exact this
       case measure=>simp[intOf];omega
  · obtain rfl:i=n:=by omega
    have z:=qH (show Trs wr g E ((P.drop j).map tr) by
     have a9:=NP.o;by_cases c2:0<r
     · obtain⟨g',o',C,I,ht⟩:=KP.o.1 (by omega)
       obtain⟨rfl,rfl⟩:g=g'/\o'=0:=by simp at C;exact⟨C.1,C.2.symm⟩
       have:=(ht.below I F.o.2.2.2).drop j;rw[Aa,<-F.o.1 c2,<-List.map_drop] at this;exact this
     · rw[Dx (by omega)]
       intro i t h;simp at h)
    have HE:=qH (show d++P.drop j=mr2 L P by
     have:=F.o.2.2.1;rw[Dx (by rw[NL.o];exact qR),mh] at this;exact this)
    have HR:=qH (show((P.drop j).map tr).length=r by rw[Ah,AF,NP.o];omega)
    have u:=qH (show(d.map tr).length+((P.drop j).map tr).length<=2000 by
     have:=congrArg List.length HE.o;rw[qA,aU L P,NL.o,NP.o] at this;rw[Ah,Ah];have:=HS.o;omega)
    have q:=qH F.o.2.2.2.size;have m:=qH F.o.2.1;go_wp2_with (at_builtin;refine bN rfl _ _ rfl W.heap.size _ (d.map tr) ((P.drop j).map tr) rfl m.o g E r r rfl HR.o z.o u.o q.o ?_;intro v2 V y B G O;obtain⟨O2,U⟩:=qh2 y G;clear y B G O);go_ret;have y:=O2.o;rw[<-Aw,HE.o] at y;have M:((mr2 L P).map tr).length=i+np:=(by rw[Ah,aU,NL.o,NP.o]);have D:=F.o.2.2.2.trans U.o;have a0:∀x∈mr2 L P,pK V base x.1 x.2:=λx hx=>by
     rcases mi x L P hx with h|h
     · exact(KL.o.2 x h).below D
     · exact(KP.o.2 x h).below D
    rcases y.form with⟨h1,h2⟩|⟨g',Z,h1,h2,h3⟩
    · have h0:i+np=0:=by rw[<-M,h2];rfl
      refine⟨none,0,by rw[h0,<-h1];rfl,⟨λh=> ?_,a0⟩,(λb o e=>by cases e),by omega,D⟩;rw[Ah] at M;omega
    · rw[M] at h1
      subst h1;refine⟨_,Z,rfl,⟨λ_=>⟨g',0,rfl,h3,y.trs⟩,a0⟩,λb o e=> ?_,y.cap.2.1,D⟩;simp at e;omega
theorem tc{L:List Th}{M:Nat}(h:∀t∈L,t.wt<=M):∀k,∀t∈row L (k+1),t.wt<=M*2^k
 |0,t,a=>by rw[te] at a;simpa using h t a
 |k+1,t,a=>by
  have f:=tc h k;rcases(j9 t _ _).1 a with g|g
  · exact qK (h t g) (Nat.le_mul_of_pos_right _ (AA _))
  · have e:∀ (R:List Th),(∀u∈R,u.wt<=M*2^k)->∀u∈pks R,u.wt<=M*2^(k+1):=by
     intro R
     induction R using pks.induct with
     |case1 c d r ih2=>
      intro b u hu;rcases Ab.1 hu with rfl|hu
      · have i:=b c (by simp);have j:=b d (by simp)
        simp only[Th.wt];rw[AN,<-Ba];omega
      · exact ih2 (λt a=>b t (by simp[a])) u hu
     |case2 r b=>intro _ u hu;unfold pks at hu;split at hu;exact absurd rfl (b _ _ _);cases hu
    exact e _ f t g
def Far(A:Option Addr)(B:Nat)(A':Option Addr):Prop:=A'=A\/∀b o,A'=some ⟨b,o,none⟩->B<=b
def Kz(W:World)(A:Option Addr)(L:List Tp)(K:Nat)(x:Ending)(w':World):Prop:=
 ∃A' n' cap X,x=.returned (.slice A' n' cap)/\X.length=n'/\n'<=cap/\X.map (·.1)=row (L.map (·.1)) K/\aK w' W.heap.size A' X/\Far A W.heap.size A'/\Below W.heap.size W w'
theorem tf(A:Option Addr)(n c K:Nat)(L:List Tp)(W:World)(V:L.length=n)(hn:n<=320)(O:n<=c)(h1:1<=K)(h2:K<=15)(Z:aK W W.heap.size A L)(wl:∀x∈L,x.1.wt<=1073741824):
 Calls prog 304 #[.slice A n c,.int .i64 K] W (Kz W A L K):=by
 have e1:(K:Int) - 1=((K - 1:Nat):Int):=(by omega);obtain⟨z,B⟩:∃z,K - 1=z:=⟨_,rfl⟩
 rw[B] at e1;obtain⟨R,P,S,WL⟩:=qh4 B V Z wl;clear B V Z wl;go_enter func304,ntmps304;go_wp2_with fail
 go_loopw [5,9] (λv i wr=> ∃ (j:Nat) (E:Option Addr) (k a:Nat) (X:List Tp),i=.int .i64 j/\v=.slice E k a/\j<=z/\k<=640/\k<=a/\Hd (X.length=k/\X.map (·.1)=row (L.map (·.1)) (j+1)/\aK wr W.heap.size E X/\Far A W.heap.size E/\Below W.heap.size W wr)) (λ_ i _=>z - (intOf i).toNat)
 case atStart=>exact⟨0,A,n,c,L,rfl,rfl,qZ,by omega,O,qH ⟨P.o,(te _).symm,S.o,.inl rfl,Below.refl _ _⟩⟩
 case round=>
  obtain⟨j,E,k,a,X,rfl,rfl,q1,q2,q3,m⟩:=hrel;by_cases c1:j<z
  · have p:=qH (show ∀x∈X,x.1.wt<=1125899906842624/2 from λx d=>by
     have h3:x.1∈row (L.map (·.1)) (j+1):=(by rw[<-m.o.2.1];exact Dy d);have h4:=tc (M:=1073741824) (λt ht=>by
      obtain⟨y,hy,rfl⟩:=Ay.1 ht;exact WL.o y hy) j _ h3
     have B:=R.o;have h5:1073741824*2^j<=1073741824*2^14:=Dz _ (Ak (by omega) (by omega));omega)
    have N:=qH m.o.1;have HT:=qH m.o.2.2.1;have F:=qH m.o.2.2.2.2.size;go_wp2_with fail;refine(xQ E k a W.heap.size X _ N.o (by omega) F.o (λx d=>by have:=p.o x d;omega) HT.o).mono ?_;rintro x w1 ⟨g,U,rfl,t1,b1⟩;obtain⟨T1,H⟩:=qh2 t1 b1;have q:k /2<=600:=(by omega);generalize h:k /2=np at q ⊢;have D:=qH h;clear t1 b1 h;go_wp2_with fail;refine(ue A n c W.heap.size g np L (pkt U X) _ P.o (by rw[bR,N.o];exact D.o) (by omega) q (S.o.below (m.o.2.2.2.2.trans (H.o.mono F.o))) T1.o (λx d=>by have:=WL.o x d;omega) (λx d=>by
     obtain⟨i,hi,rfl⟩:=Cm d;have G:=hi;rw[bR] at G;have e:=oe U X G;rw[qE hi] at e;rw[Option.some.inj e];have l1:2*i<X.length:=(by omega);have l2:2*i+1<X.length:=(by omega);have m1:X.getD (2*i) tp0∈X:=(by rw[List.getD,qE l1];exact AW l1);have m2:X.getD (2*i+1) tp0∈X:=(by rw[List.getD,qE l2];exact AW l2);have:=p.o _ m1;have:=p.o _ m2;simp only[Th.wt];omega)).mono ?_;rintro x w2 ⟨A2,C,rfl,I,u,g2,J⟩
    have F2:=qH (And.intro I (And.intro u J));clear I u J;generalize s:n+np=n2 at g2 ⊢;have Q:=qH s;clear s;go_wp2_with fail;go_roundw
    case rel=>
     obtain⟨I,u,J⟩:=F2.o;have q:=D.o;have s:=Q.o;have d:=N.o;refine⟨j+1,A2,n2,C,_,by go_num,rfl,by omega,by omega,g2,qH ⟨?_,?_,I,?_,?_⟩⟩
     · rw[aU,bR,P.o];omega
     · rw[ja,Ge,m.o.2.1];rfl
     · exact .inr (λb o e=>by have:=u b o e;have:=F.o;have:=H.o.size;omega)
     · exact(m.o.2.2.2.2.trans (H.o.mono F.o)).trans (J.mono (by have:=F.o;have:=H.o.size;omega))
    case measure=>simp[intOf];omega
  · obtain rfl:j=z:=by omega
    go_wp2_with fail;go_ret;obtain⟨a1,u,a3,a4,a5⟩:=m.o;have B:=R.o;exact⟨_,_,_,_,rfl,a1,q3,by rw[u,<-B];congr 1;omega,a3,a4,a5⟩
