import Derived.Test.YthgilhebnlglkaaGreatDoorEMMathT
import Derived.BigQuiet
import Derived.Deep.RegionHeld3
set_option linter.all false
set_option maxHeartbeats 8000000
set_option maxRecDepth 1000000
open Go.Proofs.Tryz
namespace Go.Proofs.YthgilhebnlglkaaGreatDoor
open Go.RowKit M
def One(b:Nat):Nat->Prop:=λj=>j=b
theorem Lfs.swap{w:World}{b n i j:Nat}{e:Nat->Nat×Nat}(h:Lfs w b n e):
 Lfs ((((((w.setCell ⟨b,i*3,none⟩ (.int .u64 (e j).1)).setCell ⟨b,i*3+1,none⟩ (.int .i64 (e j).2)).setCell ⟨b,i*3+2,none⟩ (.pointer none)).setCell ⟨b,j*3,none⟩ (.int .u64 (e i).1)).setCell ⟨b,j*3+1,none⟩ (.int .i64 (e i).2)).setCell ⟨b,j*3+2,none⟩ (.pointer none)) b n (λt=>if t=j then e i else if t=i then e j else e t):=
 ((h.set i (e j).1 (e j).2).set j (e i).1 (e i).2).congr λt _=>rfl
theorem zf3{e:Nat->Nat×Nat}{i j:Nat}(h:i≠j)(t:Nat):(if t=j then e i else if t=i then e j else e t)=swp e i j t:=by
 unfold swp;by_cases h1:t=j
 · rw[if_pos h1,if_neg (by omega),if_pos h1]
 · rw[if_neg h1]
   by_cases h2:t=i
   · rw[if_pos h2,if_pos h2]
   · rw[if_neg h2,if_neg h2,if_neg h1]
theorem zkb{b:Nat}{w w':World}(h:Kept (One b) w w')(o1 o2 o3 o4 o5 o6:Nat)(v1 v2 v3 v4 v5 v6:Value):
 Kept (One b) w ((((((w'.setCell ⟨b,o1,none⟩ v1).setCell ⟨b,o2,none⟩ v2).setCell ⟨b,o3,none⟩ v3).setCell ⟨b,o4,none⟩ v4).setCell ⟨b,o5,none⟩ v5).setCell ⟨b,o6,none⟩ v6):=by
 have h1:=h.setCell ⟨b,o1,none⟩ (.inl rfl) v1;have h2:=h1.setCell ⟨b,o2,none⟩ (.inl rfl) v2;have h3:=h2.setCell ⟨b,o3,none⟩ (.inl rfl) v3;have h4:=h3.setCell ⟨b,o4,none⟩ (.inl rfl) v4;have h5:=h4.setCell ⟨b,o5,none⟩ (.inl rfl) v5;exact h5.setCell ⟨b,o6,none⟩ (.inl rfl) v6
theorem zhB{x y:Nat}(h:x<y):decide (cmv x y<0)=true:=q9T (by unfold cmv;rw[if_pos h];omega)
theorem zhA{x y:Nat}(h:¬x<y):decide (cmv x y<0)=false:=qF (by unfold cmv;rw[if_neg h];split<;>omega)
theorem z7R{e e1:Nat->Nat×Nat}{a i d j:Nat}(hi:a<i)(hd:i<d)(ho:Ord e1 a i)(hm:z3I e e1 a (min i d))(hr:∀t,a<=t->t<i->(e1 t).1=(e1 i).1->(e1 t).2<(e1 i).2)
 (h1:a<=j) (h2:j<=i) (hj:∀t,j<=t->t<i->(e1 i).1<(e1 t).1) (hs:j=a\/¬(e1 i).1<(e1 (j - 1)).1):Ord (mvd e1 j i) a (i+1)/\z3I e (mvd e1 j i) a (min (i+1) d):=by
 refine⟨zaZ ho hr h1 h2 hj (by omega),?_⟩;rw[Nat.min_eq_left (by omega)] at hm ⊢;exact(hm.wide qR (by omega)).trans (z7D e1 h1 h2 (by omega))
theorem zbt(b n c a d:Nat)(e:Nat->Nat×Nat)(W:World)(hn:n<=400)(had:a<=d)(hd:d<=n)(hs:∀i j,a<=i->i<j->j<d->(e i).2<(e j).2)(H:Lfs W b n e):
 Calls prog 343 #[.slice (some ⟨b,0,none⟩) n c,.int .i64 a,.int .i64 d,.func (.func 320) #[] #[]] W λx w'=>x=.returned (.tuple #[])/\∃e',Lfs w' b n e'/\Ord e' a d/\z3I e e' a d/\Kept (One b) W w':=by
 obtain⟨HW,HS⟩:=qh2 H hs;clear H hs;go_enter func343,ntmps343;go_wp2_with fail
 go_loopw [8] (λv wr=> ∃ (i:Nat) (e1:Nat->Nat×Nat),v=.int .i64 i/\a<i/\(i<=d\/i=a+1)/\Lfs wr b n e1/\Hd (Ord e1 a i/\z3I e e1 a (min i d)/\Kept (One b) W wr)) (λv _=>401 - (intOf v).toNat)
 case atStart=>exact⟨a+1,e,by go_num,by omega,.inr rfl,HW.o,qH ⟨λi j h1 h2 h3=>by omega,z3I.refl _ _ _,Kept.refl _ _⟩⟩
 case round=>
  obtain⟨i,e1,rfl,p1,p2,hl,HI⟩:=hrel;by_cases c1:i<d
  · have HL:=qH hl
    clear hl p2;have HR:Hd (∀t,a<=t->t<i->(e1 t).1=(e1 i).1->(e1 t).2<(e1 i).2):=qH (λt g1 g2 _=>by
     obtain⟨ho,hm,hk⟩:=HI.o;rw[Nat.min_eq_left (by omega)] at hm;obtain⟨j,j1,j2,q⟩:=hm.fro t g1 g2;rw[q,hm.o i (.inr qR)];exact HS.o j i j1 j2 c1)
    go_wp2_with fail
    go_loopw [9] (λv ws=> ∃ (j:Nat),v=.int .i64 j/\a<=j/\j<=i/\Lfs ws b n (mvd e1 j i)/\Hd ((∀t,j<=t->t<i->(e1 i).1<(e1 t).1)/\Kept (One b) W ws)) (λv _=>(intOf v).toNat)
    case atStart=>exact⟨i,rfl,by omega,qR,HL.o.congr (λt _=>(zdG e1 i t).symm),qH ⟨λt g1 g2=>by omega,HI.o.2.2⟩⟩
    case round=>
     obtain⟨j,rfl,q1,q2,hl,HJ⟩:=hrel;by_cases c2:a<j
     · obtain⟨z,hz⟩:∃z,j - 1=z:=⟨_,rfl⟩
       obtain⟨x1,x2,x3⟩:=hl.cells (show j<n by omega);obtain⟨y1,y2,y3⟩:=hl.cells (show z<n by omega);have hv1:mvd e1 j i j=e1 i:=(by unfold mvd;rw[if_pos rfl]);have hv2:mvd e1 j i z=e1 z:=(by unfold mvd;rw[if_neg (by omega),if_neg (by omega)]);rw[hv1] at x1 x2;rw[hv2] at y1 y2;obtain⟨u1,hu1⟩:∃u,(e1 i).1=u:=⟨_,rfl⟩
       obtain⟨u2,hu2⟩:∃u,(e1 i).2=u:=⟨_,rfl⟩
       obtain⟨v1,hw1⟩:∃u,(e1 z).1=u:=⟨_,rfl⟩
       obtain⟨v2,hw2⟩:∃u,(e1 z).2=u:=⟨_,rfl⟩
       rw[hu1] at x1;rw[hu2] at x2;rw[hw1] at y1;rw[hw2] at y2;have HU:=qH (And.intro hu1 (And.intro hu2 (And.intro hw1 hw2)));obtain⟨HZ,HL2⟩:=qh2 hz hl;have hzn:z<n:=(by omega);have hjn:j<n:=(by omega);have hzj:z<j:=(by omega);have ez:IntKind.i64.wrap ((j:Int) - 1)=(z:Int):=(by rw[IntWalk.i64_in _ (by omega)];omega);have ez2:(j:Int) - 1=(z:Int):=(by omega);have ez3:IntKind.i64.wrap (z:Int)=(z:Int):=IntWalk.i64_in _ (by omega);have ez4:((z:Int)).toNat=z:=(by omega);have ez5:((j:Int)).toNat=j:=(by omega);obtain⟨t,ht⟩:∃t,cmv u1 v1=t:=⟨_,rfl⟩
       have cc:=λw=>zdT u1 u2 v1 v2 w
       rw[ht] at cc;have CC:=qH cc;clear cc;have g2:decide (a<j)=true:=q9T c2;clear hl hv1 hv2 hu1 hu2 hw1 hw2 hz;by_cases c3:u1<v1
       · have hd3:=zhB c3
         rw[ht] at hd3;clear ht;go_wp2_with fail
         go_region_held3 (λw'=>w'.cell? ⟨b,j*3,none⟩=some (.int .u64 u1)/\w'.cell? ⟨b,j*3+1,none⟩=some (.int .i64 u2)/\w'.cell? ⟨b,j*3+2,none⟩=some (.pointer none)/\w'.cell? ⟨b,z*3,none⟩=some (.int .u64 v1)/\w'.cell? ⟨b,z*3+1,none⟩=some (.int .i64 v2)/\w'.cell? ⟨b,z*3+2,none⟩=some (.pointer none)) (first|exact⟨k1,k2,k3,k4,k5,k6⟩|exact⟨x1,x2,x3,y1,y2,y3⟩) (first
          |((with_reducible refine(CC.o _).mono ?_);rintro x w3 ⟨rfl,b3⟩;have k1:=(b3.cell (qB x1)).trans x1;have k2:=(b3.cell (qB x2)).trans x2;have k3:=(b3.cell (qB x3)).trans x3;have k4:=(b3.cell (qB y1)).trans y1;have k5:=(b3.cell (qB y2)).trans y2;have k6:=(b3.cell (qB y3)).trans y3;have B3:=qH b3;clear b3))
         have L3:Lfs w3 b n (mvd e1 j i):=HL2.o.drew.below B3.o HL2.o.lt;have K3:Hd (Kept (One b) W w3):=qH ((HJ.o.2.drew).trans (Kept.of_below B3.o) (λ_ g=>g.elim));have gx:=L3.frozen (j*3);have gx1:=L3.frozen (j*3+1);have gx2:=L3.frozen (j*3+2);have gy:=L3.frozen (z*3);have gy1:=L3.frozen (z*3+1);have gy2:=L3.frozen (z*3+2);have hs:=(L3.swap (i:=j) (j:=z)).congr (e':=mvd e1 z i) (λt _=>(zf3 (by omega) t).trans (by rw[<-HZ.o];exact z7C e1 (by omega) q2 t));have hv1:mvd e1 j i j=e1 i:=(by unfold mvd;rw[if_pos rfl]);have hv2:mvd e1 j i z=e1 z:=(by unfold mvd;rw[if_neg (by omega),if_neg (by omega)]);rw[hv1,hv2,HU.o.1,HU.o.2.1,HU.o.2.2.1,HU.o.2.2.2] at hs;obtain⟨HS3,HL3⟩:=qh2 hs L3;clear hs hv1 hv2 L3 x1 x2 x3 y1 y2 y3 HL2 B3;go_wp2_with fail
         go_region
         go_wp2_with fail;go_roundw
         case rel=>exact⟨z,rfl,by omega,by omega,HS3.o.drew,qH ⟨λt g1 g2=>by
          by_cases q:t=z
          · rw[q,HU.o.1,HU.o.2.2.1];exact c3
          · exact HJ.o.1 t (by have:=HZ.o;omega) g2,(zkb K3.o _ _ _ _ _ _ _ _ _ _ _ _).drew⟩⟩
         case measure=>simp[intOf];omega
       · have hd3:=zhA c3
         rw[ht] at hd3;clear ht;go_wp2_with fail
         go_region_held3 (λw'=>w'.cell? ⟨b,j*3,none⟩=some (.int .u64 u1)/\w'.cell? ⟨b,j*3+1,none⟩=some (.int .i64 u2)/\w'.cell? ⟨b,j*3+2,none⟩=some (.pointer none)/\w'.cell? ⟨b,z*3,none⟩=some (.int .u64 v1)/\w'.cell? ⟨b,z*3+1,none⟩=some (.int .i64 v2)/\w'.cell? ⟨b,z*3+2,none⟩=some (.pointer none)) (first|exact⟨k1,k2,k3,k4,k5,k6⟩|exact⟨x1,x2,x3,y1,y2,y3⟩) (first
          |((with_reducible refine(CC.o _).mono ?_);rintro x w3 ⟨rfl,b3⟩;have k1:=(b3.cell (qB x1)).trans x1;have k2:=(b3.cell (qB x2)).trans x2;have k3:=(b3.cell (qB x3)).trans x3;have k4:=(b3.cell (qB y1)).trans y1;have k5:=(b3.cell (qB y2)).trans y2;have k6:=(b3.cell (qB y3)).trans y3;have B3:=qH b3;clear b3))
         have L3:Lfs w3 b n (mvd e1 j i):=HL2.o.drew.below B3.o HL2.o.lt;have K3:Hd (Kept (One b) W w3):=qH ((HJ.o.2.drew).trans (Kept.of_below B3.o) (λ_ g=>g.elim));have hs:=(L3.swap (i:=j) (j:=z)).congr (e':=mvd e1 z i) (λt _=>(zf3 (by omega) t).trans (by rw[<-HZ.o];exact z7C e1 (by omega) q2 t));have hv1:mvd e1 j i j=e1 i:=(by unfold mvd;rw[if_pos rfl]);have hv2:mvd e1 j i z=e1 z:=(by unfold mvd;rw[if_neg (by omega),if_neg (by omega)]);rw[hv1,hv2,HU.o.1,HU.o.2.1,HU.o.2.2.1,HU.o.2.2.2] at hs;obtain⟨HS3,HL3⟩:=qh2 hs L3;clear hs hv1 hv2 L3 x1 x2 x3 y1 y2 y3 HL2 B3;have ST:=qH (z7R p1 c1 HI.o.1 HI.o.2.1 HR.o q1 q2 HJ.o.1 (.inr (by rw[HZ.o,HU.o.1,HU.o.2.2.1];exact c3)));go_wp2_with fail;go_roundw
         case rel=>exact⟨i+1,_,by go_num,by omega,.inl (by omega),HL3.o,qH ⟨ST.o.1,ST.o.2,K3.o⟩⟩
         case measure=>simp[intOf];omega
     · have g2:decide (a<j)=false:=qF c2
       have HL2:=qH hl;have ST:=qH (z7R p1 c1 HI.o.1 HI.o.2.1 HR.o q1 q2 HJ.o.1 (.inl (by omega)));clear hl;go_wp2_with fail
       go_quiet (fail)
       go_wp2_with fail;go_roundw
       case rel=>exact⟨i+1,_,by go_num,by omega,.inl (by omega),HL2.o.drew,qH ⟨ST.o.1,ST.o.2,HJ.o.2.drewN _⟩⟩
       case measure=>simp[intOf];omega
  · have HL:=qH hl
    have HD:Hd (Ord e1 a d/\z3I e e1 a d):=qH (by
     obtain⟨h1,h2,h3⟩:=HI.o;rw[Nat.min_eq_right (by omega)] at h2;exact⟨h1.sub qR (by omega),h2⟩)
    clear hl p2;go_wp2_with fail;go_end0;exact⟨rfl,e1,HL.o,HD.o.1,HD.o.2,HI.o.2.2⟩
def zeT:Prop:=∀ (b n c a m d:Nat) (e:Nat->Nat×Nat) (W:World),n<=400->a<m->m<d->d<=n->Ord e a m->Ord e m d->Rel e a m d->Lfs W b n e->
 Calls prog 344 #[.slice (some ⟨b,0,none⟩) n c,.int .i64 a,.int .i64 m,.int .i64 d,.func (.func 320) #[] #[]] W λx w'=>x=.returned (.tuple #[])/\∃e',Lfs w' b n e'/\Ord e' a d/\z3I e e' a d/\Kept (One b) W w'
theorem z8E(b n c:Nat)(e0:Nat->Nat×Nat)(W:World)(hn:n<=400)(hi:Inc e0 n)(H:Lfs W b n e0)(hs:20<n->zeT):
 Calls prog 337 #[.slice (some ⟨b,0,none⟩) n c,.int .i64 n,.func (.func 320) #[] #[]] W λx w'=>x=.returned (.tuple #[])/\∃e',Lfs w' b n e'/\Ord e' 0 n/\Mem e0 e' 0 n/\Kept (One b) W w':=by
 obtain⟨HW,HI,HN⟩:=qh3 H hi hn;clear H hi;go_enter func337,ntmps337;go_wp2_with fail
 go_loopw [7,8] (λx y wr=> ∃ (a q:Nat) (e:Nat->Nat×Nat),x=.int .i64 a/\y=.int .i64 ((a:Int)+20)/\a<=n/\Lfs wr b n e/\Hd (a=q*20/\Blk e0 e 20 0 a n/\(∀t,a<=t->e t=e0 t)/\Kept (One b) W wr)) (λx y _=>401 - (intOf x).toNat)
 case atStart=>exact⟨0,0,e0,rfl,by simp,qZ,HW.o,qH ⟨rfl,z89 _ _ _ _ _,λ_ _=>rfl,Kept.refl _ _⟩⟩
 case round=>
  obtain⟨a,q,e,rfl,rfl,q1,hl,HB⟩:=hrel;have HL:=qH hl;clear hl;by_cases c1:a+20<=n
  · obtain⟨d,hd⟩:∃d,a+20=d:=⟨_,rfl⟩
    have e1:(a:Int)+20=(d:Int):=(by omega);have hdn:d<=n:=(by omega);have had:a<=d:=(by omega);have HD:=qH hd;have HS:=qH (show ∀i j,a<=i->i<j->j<d->(e i).2<(e j).2 from λi j g1 g2 g3=>by
     rw[HB.o.2.2.1 i g1,HB.o.2.2.1 j (by omega)];exact HI.o i j g2 (by omega))
    clear hd c1;go_wp2_with fail;refine(zbt b n c a d e _ HN.o had hdn HS.o HL.o).mono ?_;rintro x w1 ⟨rfl,e',l1,o1,s1,k1⟩;have L1:=qH l1;have F1:=qH (And.intro o1 (And.intro s1 k1));clear l1 o1 s1 k1;go_wp2_with fail;go_roundw
    case rel=>
     obtain⟨h1,h2,h3,h4⟩:=HB.o;obtain⟨o1,s1,k1⟩:=F1.o;have hd:=HD.o;have hmin:min (a+20) n=d:=(by omega);refine⟨d,q+1,e',rfl,rfl,hdn,L1.o,qH ⟨by rw[Nat.succ_mul];omega,?_,λt g=>by rw[s1.o t (.inr g),h3 t (by omega)],h4.trans k1 (λ_ h=> .inl h)⟩⟩;have:=z2I (e':=e') h2 h1 (by rw[hmin];exact o1) (λt g=>s1.o t (.inl g)) (by rw[hmin];exact(Mem.of_eq (λi g _=>h3 i g)).trans s1.mem)
     rwa [hd] at this
    case measure=>have hd:=HD.o;simp[intOf];omega
  · have HS:=qH (show ∀i j,a<=i->i<j->j<n->(e i).2<(e j).2 from λi j g1 g2 g3=>by
     rw[HB.o.2.2.1 i g1,HB.o.2.2.1 j (by omega)];exact HI.o i j g2 (by omega))
    have HC:=qH (show n<=a+20 by omega);have d1:decide ((a:Int)+20<=(n:Int))=false:=qF (by omega);clear c1;go_wp2_with fail;refine(zbt b n c a n e _ HN.o q1 qR HS.o HL.o).mono ?_;rintro x w1 ⟨rfl,e',l1,o1,s1,k1⟩;have L1:=qH l1;have K1:=qH (HB.o.2.2.2.trans k1 (λ_ h=> .inl h))
    have B1:=qH (show Blk e0 e' 20 0 n n from by
     obtain⟨h1,h2,h3,h4⟩:=HB.o;have hmin:min (a+20) n=n:=Nat.min_eq_right HC.o;exact z4b (z2I (e':=e') h2 h1 (by rw[hmin];exact o1) (λt g=>s1.o t (.inl g)) (by rw[hmin];exact(Mem.of_eq (λi g _=>h3 i g)).trans s1.mem)) HC.o)
    clear l1 o1 s1 k1;go_wp2_with fail
    go_loopw [6,7,8,9] (λx y z u wr=> ∃ (bs:Nat) (e:Nat->Nat×Nat),x=.int .i64 bs/\20<=bs/\bs<=800/\Lfs wr b n e/\Hd (Blk e0 e bs 0 n n/\Kept (One b) W wr)) (λx y z u _=>401 - (intOf x).toNat)
    case atStart=>exact⟨20,e',rfl,by omega,by omega,L1.o,qH ⟨B1.o,K1.o⟩⟩
    case round=>
     obtain⟨bs,e2,rfl,r1,r2,hl,HB2⟩:=hrel;have HL2:=qH hl;clear hl;by_cases c2:bs<n
     · have HSy:=qH (hs (by omega))
       have r1':0<bs:=(by omega);obtain⟨B,hB⟩:∃B,2*bs=B:=⟨_,rfl⟩
       have w1:2*(bs:Int)=(B:Int):=(by omega);have w2:(bs:Int)*2=(B:Int):=(by omega);have hBs:B<=800:=(by omega);have hbB:bs<B:=(by omega);have HBB:=qH hB;have HB3:=qH (show Blk e0 e2 B 0 0 n/\Blk e0 e2 bs 0 n n from⟨z89 _ _ _ _ _,HB2.o.1⟩);clear hB;go_wp2_with fail
       go_loopw [7,8] (λx y ws=> ∃ (a q:Nat) (e:Nat->Nat×Nat),x=.int .i64 a/\y=.int .i64 ((a:Int)+(B:Int))/\a<=n/\Lfs ws b n e/\Hd (a=q*B/\Blk e0 e B 0 a n/\Blk e0 e bs a n n/\Kept (One b) W ws)) (λx y _=>401 - (intOf x).toNat)
       case atStart=>exact⟨0,0,e2,rfl,by simp,qZ,HL2.o,qH ⟨by simp,HB3.o.1,HB3.o.2,HB2.o.2⟩⟩
       case round=>
        obtain⟨a,q,e3,rfl,rfl,q1,hl,HB4⟩:=hrel;have HL3:=qH hl;clear hl;by_cases c3:a+B<=n
        · obtain⟨d,hd⟩:∃d,a+B=d:=⟨_,rfl⟩
          obtain⟨m,hm⟩:∃m,a+bs=m:=⟨_,rfl⟩
          have v1:(a:Int)+(B:Int)=(d:Int):=(by omega);have v2:(a:Int)+(bs:Int)=(m:Int):=(by omega);have v3:(d:Int)+(B:Int)<=2000:=(by omega);have hdn:d<=n:=(by omega);have hmd:m<d:=(by omega);have ham:a<m:=by omega
          have HR:=qH (show Ord e3 a m/\Ord e3 m d/\Rel e3 a m d from by
           obtain⟨h1,h2,h3,h4⟩:=HB4.o;have hB:=HBB.o;have:=zci (d:=d) h3 (by rw[hB];exact h1) r1' (by omega) (by omega) HI.o
           rwa [hm] at this)
          have HD:=qH (And.intro hd hm);clear hd hm c3;go_wp2_with fail;refine(HSy.o b n c a m d e3 _ HN.o ham hmd hdn HR.o.1 HR.o.2.1 HR.o.2.2 HL3.o).mono ?_;rintro x w5 ⟨rfl,e5,l5,o5,s5,k5⟩;have L5:=qH l5;have F5:=qH (And.intro o5 (And.intro s5 k5));clear l5 o5 s5 k5;go_wp2_with fail;go_roundw
          case rel=>
           obtain⟨h1,h2,h3,h4⟩:=HB4.o;obtain⟨o5,s5,k5⟩:=F5.o;obtain⟨hd,hm⟩:=HD.o;have hB:=HBB.o;have hmin:d=min (a+2*bs) n:=(by omega);have:=z5X (by rw[hB];exact h2) h3 (by rw[hB];exact h1) r1' (by omega) hmin o5 s5;rw[hB,hd] at this;exact⟨d,q+1,e5,rfl,rfl,hdn,L5.o,qH ⟨by rw[Nat.succ_mul];omega,this.1,this.2,h4.trans k5 (λ_ h=> .inl h)⟩⟩
          case measure=>simp[intOf];omega
        · obtain⟨m,hm⟩:∃m,a+bs=m:=⟨_,rfl⟩
          have v2:(a:Int)+(bs:Int)=(m:Int):=(by omega);have d3:decide ((a:Int)+(B:Int)<=(n:Int))=false:=qF (by omega);have HC3:=qH (show n<=a+B by omega);by_cases c4:m<n
          · have ham:a<m:=by omega
            have HR:=qH (show Ord e3 a m/\Ord e3 m n/\Rel e3 a m n from by
             obtain⟨h1,h2,h3,h4⟩:=HB4.o;have hB:=HBB.o;have:=zci (d:=n) h3 (by rw[hB];exact h1) r1' (by omega) (by omega) HI.o
             rwa [hm] at this)
            have HD:=qH hm;clear hm c3;go_wp2_with fail;refine(HSy.o b n c a m n e3 _ HN.o ham c4 qR HR.o.1 HR.o.2.1 HR.o.2.2 HL3.o).mono ?_;rintro x w5 ⟨rfl,e5,l5,o5,s5,k5⟩;have L5:=qH l5;have F5:=qH (And.intro o5 (And.intro s5 k5));clear l5 o5 s5 k5;go_wp2_with fail;go_roundw
            case rel=>
             obtain⟨h1,h2,h3,h4⟩:=HB4.o;obtain⟨o5,s5,k5⟩:=F5.o;have hm:=HD.o;have hB:=HBB.o;have hc3:=HC3.o;have hmin:n=min (a+2*bs) n:=(by omega);have:=z5X (by rw[hB];exact h2) h3 (by rw[hB];exact h1) r1' (by omega) hmin o5 s5;rw[hB] at this;exact⟨B,e5,rfl,by omega,hBs,L5.o,qH ⟨z4b this.1 hc3,h4.trans k5 (λ_ h=> .inl h)⟩⟩
            case measure=>simp[intOf];omega
          · have HD:=qH hm
            clear hm c3;go_wp2_with fail;go_roundw
            case rel=>
             obtain⟨h1,h2,h3,h4⟩:=HB4.o;have hm:=HD.o;have hB:=HBB.o;have:=zeJ (by rw[hB];exact h2) h3 (by rw[hB];exact h1) r1' (by omega) q1;rw[hB] at this;exact⟨B,e3,rfl,by omega,hBs,HL3.o,qH ⟨this,h4⟩⟩
            case measure=>simp[intOf];omega
     · have HE:=qH (zhN HB2.o.1 (by omega))
       go_wp2_with fail;go_end0;exact⟨rfl,e2,HL2.o,HE.o.1,HE.o.2,HB2.o.2⟩
theorem zd0(b n c:Nat)(e0:Nat->Nat×Nat)(W:World)(hn:n<=400)(hi:Inc e0 n)(H:Lfs W b n e0)(hs:20<n->zeT):
 Calls prog 319 #[.slice (some ⟨b,0,none⟩) n c,.func (.func 320) #[] #[]] W λx w'=>x=.returned (.tuple #[])/\∃e',Lfs w' b n e'/\Ord e' 0 n/\Mem e0 e' 0 n/\Kept (One b) W w':=by
 obtain⟨HW,HI⟩:=qh2 H hi;clear H hi;go_enter func319,ntmps319;go_wp2_with fail;refine(z8E b n c e0 _ hn HI.o HW.o hs).mono ?_;rintro x w5 ⟨rfl,e5,l5,o5,s5,k5⟩;have F5:=qH (And.intro l5 (And.intro o5 (And.intro s5 k5)));clear l5 o5 s5 k5;go_wp2_with fail;go_end0;exact⟨rfl,e5,F5.o⟩
theorem ze8(c a:Nat)(cmpf:Value)(W:World):
 Calls prog 343 #[.slice none 0 c,.int .i64 0,.int .i64 0,cmpf] W λx w'=>x=.returned (.tuple #[])/\W=w':=by
 go_enter func343,ntmps343;go_wp2_with fail
 go_loop [8] (λv=>v=.int .i64 1) (λ_=>0)
 case atStart=>rfl
 case round=>
  obtain rfl:=hrel;go_wp2_with fail;go_end0;exact⟨rfl,rfl⟩
theorem z6c(c:Nat)(cmpf:Value)(W:World):
 Calls prog 337 #[.slice none 0 c,.int .i64 0,cmpf] W λx w'=>x=.returned (.tuple #[])/\W=w':=by
 go_enter func337,ntmps337;go_wp2_with fail
 go_loop [7,8] (λx y=>x=.int .i64 0/\y=.int .i64 20) (λ_ _=>0)
 case atStart=>exact⟨rfl,rfl⟩
 case round=>
  obtain⟨rfl,rfl⟩:=hrel;go_wp2_with fail;refine(ze8 c 0 cmpf _).mono ?_;rintro x w1 ⟨rfl,rfl⟩;go_wp2_with fail
  go_loop [6] (λx=>x=.int .i64 20) (λ_=>0)
  case atStart=>rfl
  case round=>
   obtain rfl:=hrel;go_wp2_with fail;go_end0;exact⟨rfl,rfl⟩
theorem za6(c:Nat)(cmpf:Value)(W:World):
 Calls prog 319 #[.slice none 0 c,cmpf] W λx w'=>x=.returned (.tuple #[])/\W=w':=by
 go_enter func319,ntmps319;go_wp2_with fail;refine(z6c c cmpf _).mono ?_;rintro x w1 ⟨rfl,rfl⟩;go_wp2_with fail;go_end0;exact⟨rfl,rfl⟩
abbrev Tr:=Nat×Nat×Option Addr
def cl:List Tr->List Value
 |[]=> []
 |t::l=> .int .u64 t.1::.int .i64 t.2.1::.pointer t.2.2::cl l
theorem z3l:∀l,(cl l).length=l.length*3
 |[]=>rfl
 |t::l=>by simp only[cl,qC];rw[z3l l];omega
theorem z5V:∀l r,cl (l++r)=cl l++cl r
 |[],_=>rfl
 |t::l,r=>by simp only[List.cons_append,cl];rw[z5V l r]
theorem zhD:∀ (l:List Tr) (i:Nat) (t:Tr),l[i]? =some t->(cl l)[i*3]? =some (.int .u64 t.1)/\(cl l)[i*3+1]? =some (.int .i64 t.2.1)/\(cl l)[i*3+2]? =some (.pointer t.2.2)
 |[],i,t,h=>by simp at h
 |a::l,0,t,h=>by simp at h;subst h;simp[cl]
 |a::l,i+1,t,h=>by
  rw[List.getElem?_cons_succ] at h;obtain⟨h1,h2,h3⟩:=zhD l i t h;simp only[cl];refine⟨?_,?_,?_⟩
  · rw[show(i+1)*3=i*3+1+1+1 by omega];simpa using h1
  · rw[show(i+1)*3+1=i*3+1+1+1+1 by omega];simpa using h2
  · rw[show(i+1)*3+2=i*3+2+1+1+1 by omega];simpa using h3
theorem zfM:∀ (l:List Tr),∀u∈cl l,u.oneCell'=true
 |[],u,h=>by simp[cl] at h
 |t::l,u,h=>by
  simp only[cl,List.mem_cons] at h;rcases h with rfl|rfl|rfl|h
  · rfl
  · rfl
  · rfl
  · exact zfM l u h
def Trs(w:World)(b o:Nat)(l:List Tr):Prop:=∀i t,l[i]? =some t->w.cell? ⟨b,o+i*3,none⟩=some (.int .u64 t.1)/\w.cell? ⟨b,o+i*3+1,none⟩=some (.int .i64 t.2.1)/\w.cell? ⟨b,o+i*3+2,none⟩=some (.pointer t.2.2)
theorem zjr(b o j:Nat):(⟨b,o,none⟩:Addr).add j=⟨b,o+j,none⟩:=by
 unfold Addr.add
 split
 · rename_i h;subst h;rfl
 · rfl
theorem Trs.cl{w:World}{b o:Nat}:∀ {l:List Tr},Trs w b o l->∀j u,(cl l)[j]? =some u->w.cell? ((⟨b,o,none⟩:Addr).add j)=some u:=by
 intro l h j u hu;rw[zjr];have hj:j<l.length*3:=(by rw[<-z3l];exact(List.getElem?_eq_some_iff.1 hu).1);have hi:j/3<l.length:=(by omega);obtain⟨h1,h2,h3⟩:=h (j/3) _ (qE hi);obtain⟨g1,g2,g3⟩:=zhD l (j/3) _ (qE hi);have:j=j/3*3\/j=j/3*3+1\/j=j/3*3+2:=(by omega);rcases this with e|e|e
 · rw[<-e] at g1 h1;rw[g1] at hu;rw[h1,<-hu]
 · rw[<-e] at g2;rw[g2] at hu;rw[show o+j=o+j/3*3+1 by omega,h2,<-hu]
 · rw[<-e] at g3;rw[g3] at hu;rw[show o+j=o+j/3*3+2 by omega,h3,<-hu]
def Ow(base:Nat)(w:World)(v:Value)(l:List Tr):Prop:=w.ownsRow base 386 3 v l.length (cl l)
section
variable {base:Nat} {w w':World} {v:Value} {l r:List Tr}
theorem Ow.alloc(h:Ow base w v l)(o:Obj):Ow base (w.alloc o) v l:=World.ownsRow.alloc h o
theorem Ow.drewN(h:Ow base w v l)(n:Nat):Ow base (w.drewN n) v l:=h
theorem Ow.nil(base:Nat)(w:World):Ow base w (.slice none 0 0) []:=World.ownsRow_nil w base _ 3
theorem Ow.lt(h:Ow base w v l):∀k,v.ownBlock=some k->base<=k/\k<w.heap.size:=World.ownsRow.lt h
theorem Ow.form(h:Ow base w v l):(v=.slice none 0 0/\l=[])\/∃g cap,v=.slice (some ⟨g,0,none⟩) l.length cap/\base<=g/\g<w.heap.size:=by
 rcases h.2 with⟨h1,h2⟩|⟨g,cap,cur,rfl,hg,hh,_⟩
 · exact .inl ⟨h1,List.eq_nil_of_length_eq_zero h2⟩
 · refine .inr ⟨g,cap,rfl,hg,?_⟩
   rcases Nat.lt_or_ge g w.heap.size with q|q
   · exact q
   · rw[Array.getElem?_eq_none q] at hh;cases hh
theorem Ow.cap{g n cap:Nat}(h:Ow base w (.slice (some ⟨g,0,none⟩) n cap) l):l.length=n/\n<=cap/\cap<=maxLen:=by
 rcases h.2 with⟨h',_⟩|⟨g',cap',cur,h',_,_,hnc,hcm,_⟩
 · simp at h'
 · simp only[Value.slice.injEq,Option.some.injEq,Addr.mk.injEq,and_true] at h'
   obtain⟨rfl,h2,rfl⟩:=h';exact⟨h2.symm,by omega,hcm⟩
theorem Ow.trs{g n cap:Nat}(h:Ow base w (.slice (some ⟨g,0,none⟩) n cap) l):Trs w g 0 l:=by
 have hn:=h.cap.1;subst hn;intro i t hi;have hlt:=(List.getElem?_eq_some_iff.1 hi).1;obtain⟨h1,h2,h3⟩:=zhD l i t hi;rw[Nat.zero_add];have k:=λj hj=>World.ownsRow.cellAt (w:=w) h j hj
 exact⟨(k _ (by omega)).trans h1,(k _ (by omega)).trans h2,(k _ (by omega)).trans h3⟩
theorem Ow.block{g n cap:Nat}(h:Ow base w (.slice (some ⟨g,0,none⟩) n cap) l):∃cur:Array Value,w.heap[g]? =some (.cells cur 386 (0,0))/\n*3<=cur.size:=by
 rcases h.2 with⟨h',_⟩|⟨g',cap',cur,h',_,hh,hnc,hcm,hs,_⟩
 · simp at h'
 · simp only[Value.slice.injEq,Option.some.injEq,Addr.mk.injEq,and_true] at h'
   obtain⟨rfl,h2,rfl⟩:=h';exact⟨cur,hh,by rw[hs];omega⟩
end
theorem z2T:(prog.info? 386).map (λi=>(i.zero,i.size,i.bytes))=some (some (.agg #[.int .u64 0,.int .i64 0,.pointer none]),3,24):=by kernel_rfl
theorem zdx:(prog.info? 432).map (λi=>(i.zero,i.size,i.bytes))=some (some (.agg #[.int .u64 0,.int .i64 0,.pointer none,.int .u64 0,.int .i64 0,.pointer none]),6,48):=by kernel_rfl
theorem byteInfo:(prog.info? 5).map (λi=>(i.zero,i.size,i.bytes))=some (some (.int .u8 0),1,1):=by kernel_rfl
theorem info_of{e:TypeId}{z:Value}{size bytes:Nat}(hi:(prog.info? e).map (λi=>(i.zero,i.size,i.bytes))=some (some z,size,bytes)):∃i,prog.info? e=some i/\i.zero=some z/\i.size=size/\i.bytes=bytes:=by
 cases hq: prog.info? e with
 |none=>rw[hq] at hi;cases hi
 |some i=>rw[hq] at hi;simp at hi;exact⟨i,rfl,hi.1,hi.2.1,hi.2.2⟩
theorem z2u(w:World){t e:TypeId}{z:Value}{size bytes:Nat}(ht: prog.underlying t=some (.slice e))(hi:(prog.info? e).map (λi=>(i.zero,i.size,i.bytes))=some (some z,size,bytes))(hb:bytes<=64)(n m:Nat)(hn:n<=m)(hm:m<=2000):
 (Instr.makeSlice t (.int .i64 (n:Int)) (.int .i64 (m:Int))).run prog w=.ok (.slice (some ⟨w.heap.size,0,none⟩) n m) (w.alloc (.cells (madeCells z.cells (m*size)) e)):=by
 obtain⟨i,h1,h2,h3,h4⟩:=info_of hi;subst h3 h4;have hb':(i.bytes:Int)*(m:Int)<=281474976710656:=by
  have h:i.bytes*m<=64*2000:=Nat.mul_le_mul hb hm;have h':((i.bytes*m:Nat):Int)<=281474976710656:=by omega
  rwa [Int.natCast_mul] at h'
 have hr:=run_make (P:= prog) w t e i z ht h1 h2 .i64 .i64 n m (by omega) (by omega) hb' (by omega);simp only[Int.toNat_natCast] at hr;exact hr
theorem ziu(w:World)(ty:TypeId)(base:Nat)(v:Value)(l r:List Tr)(hown:Ow base w v l)(b o c:Nat)(hG:Trs w b o r)(hm:l.length+r.length<=2000)(hb:base<=w.heap.size):
 ∃v' w',(Builtin.append_ #[382,382] ty #[v,.slice (some ⟨b,o,none⟩) r.length c]).run prog w=.ok v' w'/\Ow base w' v' (l++r)/\w.grownBy w' v.ownBlock/\Below base w w'/\(v'.ownBlock=v.ownBlock\/v'.ownBlock=some w.heap.size):=by
 obtain⟨i,h1,h2,h3,h4⟩:=info_of z2T
 obtain⟨v',w',r1,r2,r3,_,r5⟩:=run_append_own_at (P:= prog) w base 382 ty 386 i _ 3 24 underlying382 h1 h2 h3 h4 rfl (by decide) v l.length (cl l) hown ⟨b,o,none⟩ r.length c (cl r) (z3l r)
  hG.cl (zfM r) (by unfold maxLen;omega) (by omega) hb
 refine⟨v',w',r1,?_,r3,(Below.refl base w).grown r3 hb (λk hk=>(World.ownsRow.lt hown k hk).1),r5⟩;unfold Ow;rw[qA,z5V];exact r2
theorem z0V{ops:Array Oper}{rest:List Oper}{o:Oper}{a:Act}{w:World}{Q:Exit->Act->World->Prop}(hgd:o.guard=none)(s x:Operand)(ho:o.op=.call {callee:=.builtin .append,args:= #[s,x],argTypes:= #[382,382]})
 (base:Nat) (v:Value) (l r:List Tr) (hs:a.eval s=v) (hown:Ow base w v l) (b o' n c:Nat) (hx:a.eval x=.slice (some ⟨b,o',none⟩) n c) (hn:r.length=n) (hG:Trs w b o' r) (hm:l.length+r.length<=2000) (hb:base<=w.heap.size)
 (h:∀v' w',Ow base w' v' (l++r)->w.grownBy w' v.ownBlock->Below base w w'->(v'.ownBlock=v.ownBlock\/v'.ownBlock=some w.heap.size)->wpList prog ops Q rest (a.put o.dst v') w'):wpList prog ops Q (o::rest) a w:=
 wpList_plain hgd λK hK=>by
  subst hn;obtain⟨v',w',r1,r2,r3,r4,r5⟩:=ziu w o.type base v l r hown b o' c hG hm hb;unfold Oper.wp execOp;simp only[ho,resolve,invoke,builtin,Sem.run_bind,Sem.run_pure,Result.andThen_ok,List.map_toArray,List.map_cons,List.map_nil,hs,hx,r1];exact hK _ _ (h v' w' r2 r3 r4 r5)
def z8k(w:World)(base:Nat):Th->Option Addr->Prop
 |.lf _ _,p=>p=none
 |.pk x y,p=> ∃g o px py,p=some ⟨g,o,none⟩/\base<=g/\g<w.heap.size/\
  (w.cell? ⟨g,o,none⟩=some (.int .u64 x.wt)/\w.cell? ⟨g,o+1,none⟩=some (.int .i64 x.sy)/\w.cell? ⟨g,o+2,none⟩=some (.pointer px))/\
  (w.cell? ⟨g,o+3,none⟩=some (.int .u64 y.wt)/\w.cell? ⟨g,o+4,none⟩=some (.int .i64 y.sy)/\w.cell? ⟨g,o+5,none⟩=some (.pointer py))/\z8k w base x px/\z8k w base y py
theorem z8k.kept{w w':World}{base:Nat}(q:∀g,base<=g->g<w.heap.size->w'.heap[g]? =w.heap[g]?)(hs:w.heap.size<=w'.heap.size):∀ {t:Th} {p:Option Addr},z8k w base t p->z8k w' base t p
 |.lf _ _,p,h=>h
 |.pk x y,p,h=>by
  obtain⟨g,o,px,py,rfl,hb,hg,⟨a1,a2,a3⟩,⟨b1,b2,b3⟩,h1,h2⟩:=h;have c:=λo'=>World.cell?_of_block (w:=w) (w':=w') (a:=⟨g,o',none⟩) (q g hb hg)
  exact⟨g,o,px,py,rfl,hb,by omega,⟨(c _).trans a1,(c _).trans a2,(c _).trans a3⟩,⟨(c _).trans b1,(c _).trans b2,(c _).trans b3⟩,h1.kept q hs,h2.kept q hs⟩
theorem z8k.below{w w':World}{base:Nat}{t:Th}{p:Option Addr}(h:z8k w base t p)(hb:Below w.heap.size w w'):z8k w' base t p:=h.kept (λg _ hg=>hb.block g hg) hb.size
abbrev Tp:=Th×Option Addr
def tr(x:Tp):Tr:=(x.1.wt,x.1.sy,x.2)
def z0v(w:World)(base:Nat)(A:Option Addr)(X:List Tp):Prop:=
 (0<X.length->∃b o,A=some ⟨b,o,none⟩/\b<w.heap.size/\Trs w b o (X.map tr))/\∀x∈X,z8k w base x.1 x.2
theorem Trs.below{w w':World}{b o:Nat}{l:List Tr}(h:Trs w b o l)(hl:b<w.heap.size)(hb:Below w.heap.size w w'):Trs w' b o l:=λi t hi=>by
 obtain⟨h1,h2,h3⟩:=h i t hi;exact⟨(hb.cell hl).trans h1,(hb.cell hl).trans h2,(hb.cell hl).trans h3⟩
theorem z0v.below{w w':World}{base:Nat}{A:Option Addr}{X:List Tp}(h:z0v w base A X)(hb:Below w.heap.size w w'):z0v w' base A X:=by
 refine⟨λhn=> ?_,λx hx=>(h.2 x hx).below hb⟩;obtain⟨b,o,e,hl,ht⟩:=h.1 hn;exact⟨b,o,e,Nat.lt_of_lt_of_le hl hb.size,ht.below hl hb⟩
theorem Trs.one{w:World}{b o:Nat}{X:List Tp}(h:Trs w b o (X.map tr)){i:Nat}{x:Tp}(hx:X[i]? =some x):w.cell? ⟨b,o+i*3,none⟩=some (.int .u64 x.1.wt)/\w.cell? ⟨b,o+i*3+1,none⟩=some (.int .i64 x.1.sy)/\w.cell? ⟨b,o+i*3+2,none⟩=some (.pointer x.2):=
 h i (tr x) (by rw[List.getElem?_map,hx];rfl)
theorem Trs.drop{w:World}{b o:Nat}{l:List Tr}(h:Trs w b o l)(k:Nat):Trs w b (o+k*3) (l.drop k):=λi t hi=>by
 rw[List.getElem?_drop] at hi;have:=h (k+i) t hi;rw[show o+(k+i)*3=o+k*3+i*3 by omega] at this;exact this
def zjy(z:Nat->Int)(n:Nat):Prop:=n<=320/\∀i,i<n->0<=z i/\z i<=1073741824
instance (z:Nat->Int) (n:Nat):Decidable (zjy z n):=inferInstanceAs (Decidable (n<=320/\∀i,i<n->0<=z i/\z i<=1073741824))
def zk5(z:Nat->Int)(n:Nat):Bool:=decide (zjy z n)
theorem z5D{z:Nat->Int}{n:Nat}(h:zjy z n):zk5 z n=true:=q9T h
theorem z27{z:Nat->Int}{n:Nat}(h:¬zjy z n):zk5 z n=false:=qF h
theorem zdp(A:Option Addr)(n c:Nat)(z:Nat->Int)(w:World)(hn:n<=maxLen)(H:z0e w .i64 A n z):
 Calls prog 300 #[.slice A n c] w λe w'=>e=.returned (.bool (zk5 z n))/\w=w':=by
 have hn':n<=9223372036854775807:=(by unfold maxLen at hn;omega);clear hn;by_cases h3:n<=320
 · go_enter func300,ntmps300
   go_wp2
   go_loop [10] (λi=> ∃k:Nat,k<=n/\i=.int .i64 k/\Hd (∀j,j<k->0<=z j/\z j<=1073741824)) (λi=>n - (intOf i).toNat)
   case atStart=>exact⟨0,qZ,rfl,qH (λj hj=>by omega)⟩
   case round=>
    obtain⟨k,hk,rfl,hsm⟩:=hrel;by_cases hlt:k<n
    · obtain⟨b,o,rfl,hb,hc⟩:=H (by omega)
      have hcell:=hc k hlt;clear hc;generalize hx:z k=x at hcell;have HX:=qH hx;clear hx;by_cases h1:x<0
      · have hv:=qH (z27 (z:=z) (n:=n) (λg=>by have:=g.2 k hlt;rw[HX.o] at this;omega))
        go_wp2;go_ret;exact⟨by rw[hv.o];rfl,rfl⟩
      · by_cases h2:1073741824<x
        · have hv:=qH (z27 (z:=z) (n:=n) (λg=>by have:=g.2 k hlt;rw[HX.o] at this;omega))
          go_wp2;go_ret;exact⟨by rw[hv.o];rfl,rfl⟩
        · go_wp2
          go_round
          case rel=>exact⟨k+1,by omega,by go_num,qH (λj hj=>by
           by_cases e:j=k
           · rw[e,HX.o];omega
           · exact hsm.o j (by omega))⟩
          case measure=>simp[intOf];omega
    · obtain rfl:k=n:=by omega
      have hv:=qH (z5D (z:=z) (n:=k) ⟨h3,hsm.o⟩);go_wp2;go_ret;exact⟨by rw[hv.o];rfl,rfl⟩
 · have hv:=qH (z27 (z:=z) (n:=n) (λg=>h3 g.1))
   go_enter func300,ntmps300;go_wp2;go_ret;exact⟨by rw[hv.o];rfl,rfl⟩
structure Raw(c:Nat->Nat)(k m:Nat)(e:Nat->Nat×Nat):Prop where
 inc:Inc e m
 is_:∀i,i<m->(e i).2<k/\0<c (e i).2/\(e i).1=c (e i).2
 all:∀s,s<k->0<c s->∃i,i<m/\(e i).2=s
 le:m<=k
structure z3J(c:Nat->Nat)(n m:Nat)(e:Nat->Nat×Nat):Prop where
 ord:Ord e 0 m
 is_:∀i,i<m->(e i).2<n/\0<c (e i).2/\(e i).1=c (e i).2
 all:∀s,s<n->0<c s->∃i,i<m/\(e i).2=s
 le:m<=n
theorem Raw.none(c:Nat->Nat)(e:Nat->Nat×Nat):Raw c 0 0 e:=⟨λi j h1 h2=>by omega,λi h=>by omega,λs h=>by omega,qR⟩
theorem Raw.skip{c:Nat->Nat}{k m:Nat}{e:Nat->Nat×Nat}(h:Raw c k m e)(hz:c k=0):Raw c (k+1) m e:=
 ⟨h.inc,λi hi=>by have:=h.is_ i hi;exact⟨by omega,this.2⟩,λs hs hc=>by
  by_cases q:s=k
  · subst q;omega
  · exact h.all s (by omega) hc,by have:=h.le;omega⟩
theorem Raw.more{c:Nat->Nat}{k m:Nat}{e:Nat->Nat×Nat}(h:Raw c k m e)(hz:0<c k):Raw c (k+1) (m+1) (λi=>if i=m then(c k,k) else e i):=by
 refine⟨λi j h1 h2=> ?_,λi hi=> ?_,λs hs hc=> ?_,by have:=h.le;omega⟩
 · by_cases q:j=m
   · have:=(h.is_ i (by omega)).1
     simp only[if_pos q,if_neg (show ¬i=m by omega)];exact this
   · simp only[if_neg q,if_neg (show ¬i=m by omega)];exact h.inc i j h1 (by omega)
 · by_cases q:i=m
   · simp only[if_pos q];exact⟨Nat.lt_succ_self _,hz,trivial⟩
   · simp only[if_neg q];have:=h.is_ i (by omega);exact⟨by omega,this.2⟩
 · by_cases q:s=k
   · exact⟨m,by omega,by simp only[if_pos];exact q.symm⟩
   · obtain⟨i,hi,r⟩:=h.all s (by omega) hc
     exact⟨i,by omega,by simp only[if_neg (show ¬i=m by omega)];exact r⟩
theorem Raw.lv{c:Nat->Nat}{n m:Nat}{e e':Nat->Nat×Nat}(h:Raw c n m e)(ho:Ord e' 0 m)(hm:Mem e e' 0 m):z3J c n m e':=
 ⟨ho,λi hi=>by
  obtain⟨j,_,j2,q⟩:=hm.fro i qZ hi;rw[q];exact h.is_ j j2,λs hs hc=>by
  obtain⟨i,hi,r⟩:=h.all s hs hc;obtain⟨j,_,j2,q⟩:=hm.to i qZ hi;exact⟨j,j2,by rw[<-q];exact r⟩,h.le⟩
def lt3(m:Nat)(e:Nat->Nat×Nat):List Tr:=(List.range m).map λi=>((e i).1,(e i).2,none)
theorem z2b(m:Nat)(e:Nat->Nat×Nat):(lt3 m e).length=m:=by unfold lt3;simp
theorem ziU(m:Nat)(e:Nat->Nat×Nat){i:Nat}(h:i<m):(lt3 m e)[i]? =some ((e i).1,(e i).2,none):=by unfold lt3;simp[h]
theorem zdN(m x y:Nat)(e:Nat->Nat×Nat):lt3 m e++[(x,y,none)]=lt3 (m+1) (λi=>if i=m then(x,y) else e i):=by
 unfold lt3;rw[List.range_succ,List.map_append];congr 1
 · apply List.map_congr_left
   intro i hi;have:=List.mem_range.1 hi;simp only[if_neg (show ¬i=m by omega)]
 · simp
theorem Ow.lfs{base g m cap:Nat}{w:World}{e:Nat->Nat×Nat}(h:Ow base w (.slice (some ⟨g,0,none⟩) m cap) (lt3 m e)):Lfs w g m e:=by
 obtain⟨cur,hc,hs⟩:=h.block;refine⟨cur,hc,hs,λi hi=> ?_⟩;have:=h.trs i _ (ziU m e hi);rw[cell_of_row w g _ cur _ _ hc,cell_of_row w g _ cur _ _ hc,cell_of_row w g _ cur _ _ hc] at this;rw[Nat.zero_add] at this;exact this
theorem z33(w:World)(x y:Nat)(p:Option Addr):Trs (w.alloc (.cells #[.int .u64 x,.int .i64 y,.pointer p] 386)) w.heap.size 0 [(x,y,p)]:=by
 intro i t h
 match i,h with
 |0,h=>
  simp at h;subst h;simp
theorem z8Z(A:Option Addr)(n c':Nat)(c:Nat->Nat)(W:World)(hn:n<=320)(hc:∀i,c i<=1073741824)(H:z0e W .i64 A n (λi=>(c i:Int)))(hs:∀m e,Raw c n m e->20<m->zeT):
 Calls prog 301 #[.slice A n c'] W λx w'=> ∃A' cap m e,x=.returned (.slice A' m cap)/\m<=cap/\z3J c n m e/\(0<m->∃b,A'=some ⟨b,0,none⟩/\Lfs w' b m e)/\Below W.heap.size W w':=by
 obtain⟨HC,HA⟩:=qh2 hc H;clear hc H;go_enter func301,ntmps301;go_wp2_with fail
 go_loopw [3,8] (λv i wr=> ∃ (k m:Nat) (e:Nat->Nat×Nat),i=.int .i64 k/\k<=n/\Hd (Ow W.heap.size wr v (lt3 m e)/\Raw c k m e/\Below W.heap.size W wr)) (λv i _=>n - (intOf i).toNat)
 case atStart=>exact⟨0,0,λ_=>(0,0),rfl,qZ,qH ⟨Ow.nil _ _,Raw.none _ _,Below.refl _ _⟩⟩
 case round=>
  obtain⟨k,m,e,rfl,hk,HB⟩:=hrel;by_cases hlt:k<n
  · obtain⟨b,o,rfl,hb,hc1⟩:=HA.o (by omega)
    have hcell:wr.cell? ⟨b,o+k,none⟩=some (.int .i64 (c k)):=(HB.o.2.2.cell hb).trans (hc1 k hlt);have h30:=HC.o k;clear hc1;generalize hx:c k=x at hcell h30;have HX:=qH hx;clear hx;by_cases h0:0<x
    · have hsz:=HB.o.2.2.size
      have hw:IntKind.u64.wrap (x:Int)=(x:Int):=(by rw[IntKind.wrap_u64];omega);have HO:=qH (show Ow W.heap.size (wr.alloc (.cells #[.int .u64 x,.int .i64 k,.pointer none] 386)) _ (lt3 m e) from HB.o.1.alloc _);have HT:=qH (z33 wr x k none);have HS:=qH (show W.heap.size<=(wr.alloc (.cells #[.int .u64 x,.int .i64 k,.pointer none] 386)).heap.size by simp;omega);have HM:=qH (show(lt3 m e).length+1<=2000 by have:=HB.o.2.1.le;rw[z2b];omega);clear hsz;go_wp2_with (at_builtin;refine z0V rfl _ _ rfl W.heap.size _ (lt3 m e) [(x,k,none)] rfl HO.o _ 0 1 _ rfl rfl HT.o HM.o HS.o ?_;intro v2 w2 o2 g2 b2 q2;obtain⟨O2,B2⟩:=qh2 o2 b2;clear o2 g2 b2 q2);go_roundw
      case rel=>
       refine⟨k+1,m+1,_,by go_num,by omega,qH ⟨by have:=O2.o;rw[zdN] at this;exact this,?_,?_⟩⟩
       · have:=HB.o.2.1.more (k:=k) (by rw[HX.o];exact h0)
         rw[HX.o] at this;exact this
       · exact(HB.o.2.2.alloc HB.o.2.2.size _).trans B2.o
      case measure=>simp[intOf];omega
    · obtain rfl:x=0:=by omega
      go_wp2_with fail;go_roundw
      case rel=>exact⟨k+1,m,e,by go_num,by omega,qH ⟨HB.o.1,HB.o.2.1.skip HX.o,HB.o.2.2⟩⟩
      case measure=>simp[intOf];omega
  · obtain rfl:k=n:=by omega
    rcases HB.o.1.form with⟨rfl,h1⟩|⟨g,cap,rfl,hg,hg2⟩
    · have h0:=congrArg List.length h1
      rw[z2b] at h0;obtain rfl:m=0:=h0;have HL:=qH (HB.o.2.1.lv (e':=e) (λi j h1 h2 h3=>by omega) ⟨λi h1 h2=>by omega,λi h1 h2=>by omega⟩);clear h1;go_wp2_with fail;refine(za6 0 _ _).mono ?_;rintro x w1 ⟨rfl,rfl⟩;go_wp2_with fail;go_ret;exact⟨_,_,_,_,rfl,qR,HL.o,λh=>absurd h (by omega),HB.o.2.2⟩
    · rw[z2b] at HB ⊢
      have HL:=qH HB.o.1.lfs;have HR:=HB.o.2.1;have HI:=qH HR.inc;have HCAP:=qH HB.o.1.cap.2.1;have HM:=qH (show m<=400 by have:=HR.le;omega);have HSy:=qH (hs m e HR);clear HR;go_wp2_with fail;refine(zd0 g m cap e _ HM.o HI.o HL.o (HSy.o)).mono ?_;rintro x w1 ⟨rfl,e1,l1,o1,m1,k1⟩;have F1:=qH (show z3J c k m e1/\(0<m->∃b,some (⟨g,0,none⟩:Addr)=some ⟨b,0,none⟩/\Lfs w1 b m e1)/\Below W.heap.size W w1 from⟨HB.o.2.1.lv o1 m1,λ_=>⟨g,rfl,l1⟩,HB.o.2.2.trans (k1.below HB.o.2.2.size (λj hj=>by rw[hj];exact hg))⟩);clear l1 o1 m1 k1;go_wp2_with fail;go_ret;exact⟨_,_,_,_,rfl,HCAP.o,F1.o.1,F1.o.2.1,F1.o.2.2⟩
def tp0:Tp:=(.lf 0 0,none)
def zaK(x:Tp)(j:Nat):Value:=if j=0 then .int .u64 x.1.wt else if j=1 then .int .i64 x.1.sy else .pointer x.2
def z1r(w:World)(g:Nat)(T:TypeId)(n:Nat)(X:Nat->Tp):Prop:=w.rowIs g T (n*3) (λj=>zaK (X (j/3)) (j%3))
section
variable {w w':World} {g n:Nat} {T:TypeId} {X Y:Nat->Tp}
theorem z1r.congr(h:z1r w g T n X)(e:∀i,i<n->X i=Y i):z1r w g T n Y:=World.rowIs.congr h (λj hj=>by rw[e (j/3) (by omega)])
theorem z1r.lt(h:z1r w g T n X):g<w.heap.size:=World.rowIs.lt h
theorem z1r.alloc(h:z1r w g T n X)(o:Obj):z1r (w.alloc o) g T n X:=World.rowIs.alloc h o
theorem z1r.other(h:z1r w g T n X){a:Addr}(ha:g≠a.block)(v:Value):z1r (w.setCell a v) g T n X:=World.rowIs.setOther h ha v
theorem z1r.drew(h:z1r w g T n X):z1r w.drew g T n X:=h
theorem z1r.frozen(h:z1r w g T n X)(i:Nat):w.frozen? ⟨g,i,none⟩=false:=World.rowIs.frozen h i
theorem z1r.cells(h:z1r w g T n X){i:Nat}(hi:i<n):w.cell? ⟨g,i*3,none⟩=some (.int .u64 (X i).1.wt)/\w.cell? ⟨g,i*3+1,none⟩=some (.int .i64 (X i).1.sy)/\w.cell? ⟨g,i*3+2,none⟩=some (.pointer (X i).2):=by
 have k:=λj (hj:j<n*3)=>World.rowIs.cell (w:=w) h hj
 refine⟨?_,?_,?_⟩
 · rw[k _ (by omega),show i*3/3=i by omega,show i*3%3=0 by omega];rfl
 · rw[k _ (by omega),show(i*3+1) /3=i by omega,show(i*3+1)%3=1 by omega];rfl
 · rw[k _ (by omega),show(i*3+2) /3=i by omega,show(i*3+2)%3=2 by omega];rfl
theorem z1r.set(h:z1r w g T n X)(i:Nat)(x:Tp):z1r (((w.setCell ⟨g,i*3,none⟩ (.int .u64 x.1.wt)).setCell ⟨g,i*3+1,none⟩ (.int .i64 x.1.sy)).setCell ⟨g,i*3+2,none⟩ (.pointer x.2)) g T n (λt=>if t=i then x else X t):=by
 refine World.rowIs.congr (((World.rowIs.set h (i*3) (.int .u64 x.1.wt)).set (i*3+1) (.int .i64 x.1.sy)).set (i*3+2) (.pointer x.2)) (λj hj=> ?_);have hm:j%3=0\/j%3=1\/j%3=2:=(by omega);by_cases q:j/3=i
 · rcases hm with r|r|r
   · rw[if_neg (by omega),if_neg (by omega),if_pos (by omega),r];simp only[if_pos q];rfl
   · rw[if_neg (by omega),if_pos (by omega),r];simp only[if_pos q];rfl
   · rw[if_pos (by omega),r];simp only[if_pos q];rfl
 · rw[if_neg (by omega),if_neg (by omega),if_neg (by omega)]
   simp only[if_neg q]
theorem z1r.trs(h:z1r w g T n X)(l:List Tp)(hl:l.length<=n)(e:∀i x,l[i]? =some x->X i=x):Trs w g 0 (l.map tr):=λi t hi=>by
 rw[List.getElem?_map] at hi;cases hq:l[i]? with
 |none=>rw[hq] at hi;cases hi
 |some x=>
  rw[hq] at hi;obtain rfl:tr x=t:=by simpa using hi
  have hlt:=(List.getElem?_eq_some_iff.1 hq).1;have:=h.cells (show i<n by omega);rw[e i x hq] at this;rw[Nat.zero_add];exact this
end
theorem z1r.made1(w:World)(n:Nat):z1r (w.alloc (.cells (madeCells #[.int .u64 0,.int .i64 0,.pointer none] (n*3)) 386)) w.heap.size 386 n (λ_=>tp0):=by
 have h:=World.rowIs_alloc w (madeCells #[.int .u64 0,.int .i64 0,.pointer none] (n*3)) 386 (λj=>zaK tp0 (j%3)) (λj hj=>by
  rw[size_madeCells] at hj;have hm:j%3=0\/j%3=1\/j%3=2:=(by omega);rcases hm with r|r|r<;>simp[madeCells,hj,r,zaK,tp0,Th.wt,Th.sy])
 rw[size_madeCells] at h;exact h
theorem z1r.made2(w:World)(n:Nat):z1r (w.alloc (.cells (madeCells #[.int .u64 0,.int .i64 0,.pointer none,.int .u64 0,.int .i64 0,.pointer none] (n*6)) 432)) w.heap.size 432 (2*n) (λ_=>tp0):=by
 have h:=World.rowIs_alloc w (madeCells #[.int .u64 0,.int .i64 0,.pointer none,.int .u64 0,.int .i64 0,.pointer none] (n*6)) 432 (λj=>zaK tp0 (j%3)) (λj hj=>by
  rw[size_madeCells] at hj;have hm:(j%6=0/\j%3=0)\/(j%6=1/\j%3=1)\/(j%6=2/\j%3=2)\/(j%6=3/\j%3=0)\/(j%6=4/\j%3=1)\/(j%6=5/\j%3=2):=(by omega);rcases hm with⟨r,s⟩|⟨r,s⟩|⟨r,s⟩|⟨r,s⟩|⟨r,s⟩|⟨r,s⟩<;>simp[madeCells,hj,r,s,zaK,tp0,Th.wt,Th.sy])
 rw[size_madeCells] at h;unfold z1r;rw[show 2*n*3=n*6 by omega];exact h
def pkt(gp:Nat)(R:List Tp):List Tp:=(List.range (R.length/2)).map λi=>(.pk (R.getD (2*i) tp0).1 (R.getD (2*i+1) tp0).1,some ⟨gp,i*6,none⟩)
theorem z0Y(gp:Nat)(R:List Tp):(pkt gp R).length=R.length/2:=by unfold pkt;simp
theorem z7v(gp:Nat)(R:List Tp){i:Nat}(h:i<R.length/2):(pkt gp R)[i]? =some (.pk (R.getD (2*i) tp0).1 (R.getD (2*i+1) tp0).1,some ⟨gp,i*6,none⟩):=by unfold pkt;simp[h]
theorem zfh:∀ (R:List Th) (i:Nat),i<R.length/2->(pks R)[i]? =some (.pk (R.getD (2*i) (.lf 0 0)) (R.getD (2*i+1) (.lf 0 0)))
 |[],i,h=>by simp at h
 |[a],i,h=>by simp at h
 |a::b::r,0,h=>by simp[pks]
 |a::b::r,i+1,h=>by
  simp only[qC] at h;rw[pks,List.getElem?_cons_succ,zfh r i (by omega),show 2*(i+1)=2*i+1+1 by omega];simp
theorem z7U(R:List Tp)(i:Nat):(R.map (·.1)).getD i (.lf 0 0)=(R.getD i tp0).1:=by
 rw[List.getD,List.getD,List.getElem?_map];cases R[i]? <;>rfl
theorem zgL(gp:Nat)(R:List Tp):(pkt gp R).map (·.1)=pks (R.map (·.1)):=by
 apply List.ext_getElem?
 intro i;rw[List.getElem?_map];by_cases h:i<R.length/2
 · rw[z7v gp R h,zfh _ i (by simpa using h),z7U,z7U];rfl
 · rw[List.getElem?_eq_none (by rw[z0Y];omega),List.getElem?_eq_none (by rw[z1h,List.length_map];omega)];rfl
def prX(R:List Tp)(k i:Nat):Tp:=if i<2*k then R.getD i tp0 else tp0
def pkX(gp:Nat)(R:List Tp)(k i:Nat):Tp:=if i<k then(.pk (R.getD (2*i) tp0).1 (R.getD (2*i+1) tp0).1,some ⟨gp,i*6,none⟩) else tp0
theorem zdt(A:Option Addr)(n c base:Nat)(R:List Tp)(W:World)(hl:R.length=n)(hn:n<=1000)(hbase:base<=W.heap.size)(hw:∀x∈R,x.1.wt<=1125899906842624)(H:z0v W base A R):
 Calls prog 325 #[.slice A n c] W λx w'=> ∃g gp,x=.returned (.slice (some ⟨g,0,none⟩) (n/2) (n/2))/\z0v w' base (some ⟨g,0,none⟩) (pkt gp R)/\Below W.heap.size W w':=by
 obtain⟨np,hnp⟩:∃np,n/2=np:=⟨_,rfl⟩
 have e1:(n:Int) /2=(np:Int):=(by omega);obtain⟨HP,HL,HA,HW,HB⟩:=qh5 hnp hl H hw hbase;have hnp5:np<=500:=(by omega);have m1:=λw=>z2u w underlying431 zdx (by decide) np np qR (by omega)
 have m2:=λw=>z2u w underlying382 z2T (by decide) np np qR (by omega)
 clear hnp hl H hw hbase;go_enter func325,ntmps325;go_wp2_with fail;clear m1 m2
 go_loopw [15] (λi wr=> ∃k:Nat,k<=np/\i=.int .i64 k/\z1r wr W.heap.size 432 (2*np) (prX R k)/\z1r wr (W.heap.size+1) 386 np (pkX W.heap.size R k)/\Below W.heap.size W wr) (λi _=>np - (intOf i).toNat)
 case atStart=>
  refine⟨0,qZ,rfl,((z1r.made2 W np).alloc _).congr (λi _=>by unfold prX;rw[if_neg (by omega)]),?_,(qL).alloc (by simp) _⟩;have h:=z1r.made1 (W.alloc (.cells (madeCells #[.int .u64 0,.int .i64 0,.pointer none,.int .u64 0,.int .i64 0,.pointer none] (np*6)) 432)) np;rw[show(W.alloc (.cells (madeCells #[.int .u64 0,.int .i64 0,.pointer none,.int .u64 0,.int .i64 0,.pointer none] (np*6)) 432)).heap.size=W.heap.size+1 by simp] at h;exact h.congr (λi _=>by unfold pkX;rw[if_neg (by omega)])
 case round=>
  obtain⟨k,hk,rfl,hp,hq,hb⟩:=hrel;by_cases hlt:k<np
  · have hRn:=HL.o
    have hnp:=HP.o;obtain⟨u,hu⟩:∃u,2*k=u:=⟨_,rfl⟩
    obtain⟨v,hv⟩:∃v,u+1=v:=⟨_,rfl⟩
    have l1:u<R.length:=(by omega);have l2:v<R.length:=(by omega);obtain⟨b,o,rfl,hbs,ht⟩:=HA.o.1 (by omega);have x1:=ht.one (qE l1);have y1:=ht.one (qE l2);have gx:R.getD u tp0=R[u]:=(by rw[List.getD,qE l1];rfl);have gy:R.getD v tp0=R[v]:=(by rw[List.getD,qE l2];rfl);have hwx:=HW.o _ (List.getElem_mem l1);have hwy:=HW.o _ (List.getElem_mem l2);obtain⟨x,hx⟩:∃x,R[u]=x:=⟨_,rfl⟩
    obtain⟨y,hy⟩:∃y,R[v]=y:=⟨_,rfl⟩
    rw[hx] at x1 gx hwx;rw[hy] at y1 gy hwy;obtain⟨x1,x2,x3⟩:=x1;obtain⟨y1,y2,y3⟩:=y1;have x1':=(hb.cell hbs).trans x1;have x2':=(hb.cell hbs).trans x2;have x3':=(hb.cell hbs).trans x3;have y1':=(hb.cell hbs).trans y1;have y2':=(hb.cell hbs).trans y2;have y3':=(hb.cell hbs).trans y3;clear x1 x2 x3 y1 y2 y3 ht hx hy l1 l2;have hs1:=(hp.set (2*k) x).set (2*k+1) y;rw[show 2*k*3=k*6 by omega,show(2*k+1)*3=k*6+3 by omega] at hs1;have hs2:=hq.set k (.pk x.1 y.1,some ⟨W.heap.size,k*6,none⟩);obtain⟨c1,c2,c3⟩:=hp.cells (show 2*k<2*np by omega);obtain⟨c4,c5,c6⟩:=hp.cells (show 2*k+1<2*np by omega);rw[show 2*k*3=k*6 by omega] at c1 c2 c3;rw[show(2*k+1)*3=k*6+3 by omega] at c4 c5 c6;obtain⟨d1,d2,d3⟩:=hq.cells (show k<np by omega);have f1:=hp.frozen (k*6);have f2:=hp.frozen (k*6+1);have f3:=hp.frozen (k*6+2);have f4:=hp.frozen (k*6+3);have f5:=hp.frozen (k*6+3+1);have f6:=hp.frozen (k*6+3+2);have f7:=hq.frozen (k*3);have f8:=hq.frozen (k*3+1);have f9:=hq.frozen (k*3+2);have w1:IntKind.i64.wrap (2*(k:Int))=(u:Int):=(by rw[IntWalk.i64_in _ (by omega)];omega);have w3:2*(k:Int)=(u:Int):=(by omega);have w4:(u:Int)+1=(v:Int):=(by omega);have w5:IntKind.i64.wrap (u:Int)=(u:Int):=IntWalk.i64_in _ (by omega);have w6:IntKind.i64.wrap (v:Int)=(v:Int):=IntWalk.i64_in _ (by omega);have w7:((u:Int)).toNat=u:=(by omega);have w8:((v:Int)).toNat=v:=(by omega);obtain⟨xw,hxw⟩:∃t,x.1.wt=t:=⟨_,rfl⟩
    obtain⟨xs,hxs⟩:∃t,x.1.sy=t:=⟨_,rfl⟩
    obtain⟨xp,hxp⟩:∃t,x.2=t:=⟨_,rfl⟩
    obtain⟨yw,hyw⟩:∃t,y.1.wt=t:=⟨_,rfl⟩
    obtain⟨ys,hys⟩:∃t,y.1.sy=t:=⟨_,rfl⟩
    obtain⟨yp,hyp⟩:∃t,y.2=t:=⟨_,rfl⟩
    rw[hxw] at x1' hwx hs1;rw[hxs] at x2' hs1;rw[hxp] at x3' hs1;rw[hyw] at y1' hwy hs1;rw[hys] at y2' hs1;rw[hyp] at y3' hs1;have un:u<n:=(by omega);have vn:v<n:=(by omega);have q4:k*6+3+1=k*6+4:=rfl;have q5:k*6+3+2=k*6+5:=rfl;rw[q4,q5] at hs1;rw[q4] at c5 f5;rw[q5] at c6 f6;have hsum:(x.1.pk y.1).wt=xw+yw:=(by simp only[Th.wt];rw[hxw,hyw]);have hs2':=hq.set k (.pk x.1 y.1,some ⟨W.heap.size,k*6,none⟩);obtain⟨W6,hW6⟩:∃w6,((((((wr.setCell ⟨W.heap.size,k*6,none⟩ (.int .u64 xw)).setCell ⟨W.heap.size,k*6+1,none⟩ (.int .i64 xs)).setCell ⟨W.heap.size,k*6+2,none⟩ (.pointer xp)).setCell ⟨W.heap.size,k*6+3,none⟩ (.int .u64 yw)).setCell ⟨W.heap.size,k*6+4,none⟩ (.int .i64 ys)).setCell ⟨W.heap.size,k*6+5,none⟩ (.pointer yp))=w6:=⟨_,rfl⟩
    rw[hW6] at hs1;have hb6:Below W.heap.size W W6:=by
     rw[<-hW6];exact(((((hb.setCell qR _).setCell qR _).setCell qR _).setCell qR _).setCell qR _).setCell qR _
    have hq6:z1r W6 (W.heap.size+1) 386 np (pkX W.heap.size R k):=by
     rw[<-hW6];exact(((((hq.other (by simp) _).other (by simp) _).other (by simp) _).other (by simp) _).other (by simp) _).other (by simp) _
    obtain⟨d1',d2',d3'⟩:=hq6.cells (show k<np by omega);have f7':=hq6.frozen (k*3);have f8':=hq6.frozen (k*3+1);have f9':=hq6.frozen (k*3+2);have z1:W6.cell? ⟨b,o+u*3,none⟩=some (.int .u64 xw):=(hb6.cell hbs).trans ((hb.cell hbs).symm.trans x1');have z2:W6.cell? ⟨b,o+v*3,none⟩=some (.int .u64 yw):=(hb6.cell hbs).trans ((hb.cell hbs).symm.trans y1');have hs7:=hq6.set k (.pk x.1 y.1,some ⟨W.heap.size,k*6,none⟩);rw[show((Th.pk x.1 y.1,some (⟨W.heap.size,k*6,none⟩:Addr)):Tp).1.wt=xw+yw from hsum,show((Th.pk x.1 y.1,some (⟨W.heap.size,k*6,none⟩:Addr)):Tp).1.sy=0 from rfl] at hs7;have HS7:=qH (hs7.congr (Y:=pkX W.heap.size R (k+1)) (λi _=>by
     unfold pkX;by_cases q:i=k
     · subst q;rw[if_pos rfl,if_pos (by omega),hu,hv,gx,gy]
     · rw[if_neg q]
       by_cases q2:i<k
       · rw[if_pos q2,if_pos (by omega)]
       · rw[if_neg q2,if_neg (by omega)]))
    have HP7:=qH ((hs1.other (a:=⟨W.heap.size+1,k*3,none⟩) (by simp) (.int .u64 ((xw+yw:Nat):Int))).other (a:=⟨W.heap.size+1,k*3+1,none⟩) (by simp) (.int .i64 ((0:Nat):Int))|>.other (a:=⟨W.heap.size+1,k*3+2,none⟩) (by simp) (.pointer (some ⟨W.heap.size,k*6,none⟩))|>.congr (Y:=prX R (k+1)) (λi _=>by
     unfold prX;by_cases q:i=2*k+1
     · rw[if_pos q,if_pos (by omega),q,hu,hv,gy]
     · rw[if_neg q]
       by_cases q2:i=2*k
       · rw[if_pos q2,if_pos (by omega),q2,hu,gx]
       · rw[if_neg q2]
         by_cases q3:i<2*k
         · rw[if_pos q3,if_pos (by omega)]
         · rw[if_neg q3,if_neg (by omega)]))
    have HB7:=qH (((hb6.setCell (p:=⟨W.heap.size+1,k*3,none⟩) (by simp) (.int .u64 ((xw+yw:Nat):Int))).setCell (p:=⟨W.heap.size+1,k*3+1,none⟩) (by simp) (.int .i64 ((0:Nat):Int))).setCell (p:=⟨W.heap.size+1,k*3+2,none⟩) (by simp) (.pointer (some ⟨W.heap.size,k*6,none⟩)));have w9:IntKind.u64.wrap ((xw:Int)+(yw:Int))=((xw+yw:Nat):Int):=(by rw[IntKind.wrap_u64];omega);have HW6:=qH hW6;clear hs1 hs2 hs2' hs7 hq6 hb6 hp hq hb hsum hu hv gx gy hxw hxs hxp hyw hys hyp hRn hnp q4 q5 hW6 hlt;have hlt:k<np:=(by omega);go_wp2_with fail
    go_region
    rw[HW6.o];clear c1 c2 c3 c4 c5 c6 d1 d2 d3 f1 f2 f3 f4 f5 f6 f7 f8 f9 x1' x2' x3' y1' y2' y3';go_wp2_with fail
    go_region
    go_wp2_with fail;go_roundw
    case rel=>exact⟨k+1,by omega,by go_num,HP7.o.drew,HS7.o.drew,HB7.o.drew.drew⟩
    case measure=>simp[intOf];omega
  · obtain rfl:k=np:=by omega
    obtain⟨HQ,HPP,HBB⟩:=qh3 hq hp hb;clear hp hq hb;go_wp2_with fail;go_ret;have hq:=HQ.o;have hp:=HPP.o;have hR:=HL.o;have hnp:=HP.o;have hlen:(pkt W.heap.size R).length=k:=(by rw[z0Y];omega);rw[hnp];refine⟨_,W.heap.size,rfl,⟨λ_=>⟨_,0,rfl,hq.lt,hq.trs _ (by omega) (λi x hx=> ?_)⟩,λx hx=> ?_⟩,HBB.o⟩
    · have hi:=(List.getElem?_eq_some_iff.1 hx).1
      rw[hlen] at hi;rw[z7v _ _ (by omega)] at hx;unfold pkX;rw[if_pos hi];exact Option.some.inj hx
    · obtain⟨i,hi,rfl⟩:=List.getElem_of_mem hx
      have hi':=hi;rw[hlen] at hi';have e:=z7v W.heap.size R (i:=i) (by omega);rw[qE hi] at e;rw[Option.some.inj e];have l1:2*i<R.length:=(by omega);have l2:2*i+1<R.length:=(by omega);obtain⟨a1,a2,a3⟩:=hp.cells (show 2*i<2*k by omega);obtain⟨b1,b2,b3⟩:=hp.cells (show 2*i+1<2*k by omega);unfold prX at a1 a2 a3 b1 b2 b3;rw[if_pos (by omega)] at a1 a2 a3 b1 b2 b3;rw[show 2*i*3=i*6 by omega] at a1 a2 a3;rw[show(2*i+1)*3=i*6+3 by omega] at b1 b2 b3;have m1:R.getD (2*i) tp0∈R:=(by rw[List.getD,qE l1];exact List.getElem_mem l1);have m2:R.getD (2*i+1) tp0∈R:=(by rw[List.getD,qE l2];exact List.getElem_mem l2);exact⟨_,_,_,_,rfl,HB.o,hp.lt,⟨a1,a2,a3⟩,⟨b1,b2,b3⟩,(HA.o.2 _ m1).below HBB.o,(HA.o.2 _ m2).below HBB.o⟩
def mr2(L P:List Tp):List Tp:=match L,P with
 |[],P=>P
 |l::L,[]=>l::L
 |l::L,p::P=>if p.1.wt<l.1.wt then p::mr2 (l::L) P else l::mr2 L (p::P)
termination_by L.length+P.length
theorem z6r(P:List Tp):mr2 [] P=P:=by rw[mr2]
theorem z2w(L:List Tp):mr2 L []=L:=by cases L<;>rw[mr2]
theorem z2x(l p:Tp)(L P:List Tp):mr2 (l::L) (p::P)=if p.1.wt<l.1.wt then p::mr2 (l::L) P else l::mr2 L (p::P):=by rw[mr2]
theorem z4D:∀ (L P:List Tp),(mr2 L P).map (·.1)=mrg (L.map (·.1)) (P.map (·.1))
 |[],P=>by rw[z6r,List.map_nil,z4B]
 |l::L,[]=>by rw[z2w,List.map_nil,z1i]
 |l::L,p::P=>by
  rw[z2x,List.map_cons,List.map_cons,z1Q];by_cases h:p.1.wt<l.1.wt
  · rw[if_pos h,if_pos h,List.map_cons,z4D (l::L) P,List.map_cons]
  · rw[if_neg h,if_neg h,List.map_cons,z4D L (p::P),List.map_cons]
termination_by L P=>L.length+P.length
theorem z6s(x:Tp):∀ (L P:List Tp),x∈mr2 L P->x∈L\/x∈P
 |[],P,h=>by rw[z6r] at h;exact .inr h
 |l::L,[],h=>by rw[z2w] at h;exact .inl h
 |l::L,p::P,h=>by
  rw[z2x] at h;by_cases q:p.1.wt<l.1.wt
  · rw[if_pos q] at h
    rcases List.mem_cons.1 h with rfl|h
    · exact .inr List.mem_cons_self
    · rcases z6s x (l::L) P h with h|h
      · exact .inl h
      · exact .inr (List.mem_cons_of_mem _ h)
  · rw[if_neg q] at h
    rcases List.mem_cons.1 h with rfl|h
    · exact .inl List.mem_cons_self
    · rcases z6s x L (p::P) h with h|h
      · exact .inl (List.mem_cons_of_mem _ h)
      · exact .inr h
termination_by L P=>L.length+P.length
theorem z0G(L P:List Tp):(mr2 L P).length=L.length+P.length:=by
 have:=congrArg List.length (z4D L P);rw[List.length_map,z0x,List.length_map,List.length_map] at this;exact this
theorem z7E{L P:List Tp}{l p:Tp}{i j:Nat}(hl:L[i]? =some l)(hp:P[j]? =some p)(h:p.1.wt<l.1.wt):mr2 (L.drop i) (P.drop j)=p::mr2 (L.drop i) (P.drop (j+1)):=by
 obtain⟨hi,rfl⟩:=List.getElem?_eq_some_iff.1 hl;obtain⟨hj,rfl⟩:=List.getElem?_eq_some_iff.1 hp;rw[List.drop_eq_getElem_cons hi,List.drop_eq_getElem_cons hj,z2x,if_pos h]
theorem z7F{L P:List Tp}{l:Tp}{i j:Nat}(hl:L[i]? =some l)(h:∀p,P[j]? =some p->¬p.1.wt<l.1.wt):mr2 (L.drop i) (P.drop j)=l::mr2 (L.drop (i+1)) (P.drop j):=by
 obtain⟨hi,rfl⟩:=List.getElem?_eq_some_iff.1 hl;rw[List.drop_eq_getElem_cons hi];by_cases hj:j<P.length
 · rw[List.drop_eq_getElem_cons hj,z2x,if_neg (h _ (qE hj))]
 · rw[show P.drop j=[] from List.drop_eq_nil_of_le (by omega),z2w,z2w]
theorem zb2(A:Option Addr)(n c base g np:Nat)(L P:List Tp)(W:World)(hl:L.length=n)(hlp:P.length=np)(hn:n<=400)(hnp:np<=600)(HL:z0v W base A L)(HP:z0v W base (some ⟨g,0,none⟩) P)
 (wl:∀x∈L,x.1.wt<=1125899906842624) (wp:∀x∈P,x.1.wt<=1125899906842624):
 Calls prog 324 #[.slice A n c,.slice (some ⟨g,0,none⟩) np np] W λx w'=> ∃A' cap,x=.returned (.slice A' (n+np) cap)/\z0v w' base A' (mr2 L P)/\(∀b o,A'=some ⟨b,o,none⟩->W.heap.size<=b)/\(n+np<=cap)/\Below W.heap.size W w':=by
 obtain⟨s,hs⟩:∃s,n+np=s:=⟨_,rfl⟩
 have e1:(n:Int)+(np:Int)=(s:Int):=by omega
 have m1:∀w,(Instr.makeSlice 382 (.int .i64 0) (.int .i64 (s:Int))).run prog w=.ok (.slice (some ⟨w.heap.size,0,none⟩) 0 s) (w.alloc (.cells (madeCells #[.int .u64 0,.int .i64 0,.pointer none] (s*3)) 386)):=λw=>
  z2u w underlying382 z2T (by decide) 0 s qZ (by omega)
 obtain⟨KL,KP,NL,NP,WL,WP,HS⟩:=qh7 HL HP hl hlp wl wp hs;have hs1:s<=1000:=(by omega);clear HL HP hl hlp wl wp hs;go_enter func324,ntmps324;go_wp2_with fail;clear m1;have HO:Hd (Ow W.heap.size (W.alloc (.cells (madeCells #[.int .u64 0,.int .i64 0,.pointer none] (s*3)) 386)) (.slice (some ⟨W.heap.size,0,none⟩) 0 s) (([]:List Tp).map tr)):=qH (World.ownsRow_made W _ s qR (by unfold maxLen;omega) (size_madeCells _ _))
 go_loopw [16,5,1] (λx v pv wr=> ∃ (i j r oj:Nat) (acc:List Tp),x=.int .i64 i/\pv=.slice (some ⟨g,oj,none⟩) r r/\i<=n/\j+r=np/\Hd ((0<r->oj=j*3)/\Ow W.heap.size wr v (acc.map tr)/\acc++mr2 (L.drop i) (P.drop j)=mr2 L P/\Below W.heap.size W wr)) (λx _ _ _=>n - (intOf x).toNat)
 case atStart=>exact⟨0,0,np,0,[],rfl,rfl,qZ,by omega,qH ⟨λ_=>rfl,HO.o,rfl,qL⟩⟩
 case round=>
  obtain⟨i,j,r,oj,acc,rfl,rfl,q1,q2,HB⟩:=hrel;by_cases c1:i<n
  · have hln:=NL.o
    obtain⟨b,o,rfl,hbs,ht⟩:=KL.o.1 (by omega);have li:i<L.length:=(by omega);obtain⟨x,hx⟩:∃x,L[i]? =some x:=⟨_,qE li⟩
    obtain⟨x1,x2,x3⟩:=ht.one hx;have hwx:=WL.o x (List.mem_of_getElem? hx);have hb:=HB.o.2.2.2;have x1:=(hb.cell hbs).trans x1;have x2:=(hb.cell hbs).trans x2;have x3:=(hb.cell hbs).trans x3;obtain⟨xw,hxw⟩:∃t,x.1.wt=t:=⟨_,rfl⟩
    obtain⟨xs,hxs⟩:∃t,x.1.sy=t:=⟨_,rfl⟩
    obtain⟨xp,hxp⟩:∃t,x.2=t:=⟨_,rfl⟩
    rw[hxw] at x1 hwx;rw[hxs] at x2;rw[hxp] at x3;have HX:=qH (And.intro hx (And.intro hxw (And.intro hxs hxp)));obtain⟨B0,hB0⟩:∃B0,wr.heap.size=B0:=⟨_,rfl⟩
    have HB0:=qH hB0;clear ht hln li hx hxw hxs hxp hb;go_wp2_with fail;clear hB0;clear x1 x2 x3
    go_loopw [5,1] (λv pv ws=> ∃ (j r oj:Nat) (acc:List Tp),pv=.slice (some ⟨g,oj,none⟩) r r/\j+r=np/\ws.cell? ⟨B0,0,none⟩=some (.int .u64 xw)/\ws.cell? ⟨B0,1,none⟩=some (.int .i64 xs)/\ws.cell? ⟨B0,2,none⟩=some (.pointer xp)/\
     Hd ((0<r->oj=j*3)/\Ow W.heap.size ws v (acc.map tr)/\acc++mr2 (L.drop i) (P.drop j)=mr2 L P/\Below W.heap.size W ws/\v.ownBlock≠some B0/\B0<ws.heap.size/\acc.length<=1000)) (λ_ pv _=>match pv with|.slice _ r _=>r|_=>0)
    case atStart=>
     refine⟨j,r,oj,acc,rfl,q2,by have:=HB0.o;subst this;simp,by have:=HB0.o;subst this;simp,by have:=HB0.o;subst this;simp,qH ⟨HB.o.1,HB.o.2.1.alloc _,HB.o.2.2.1,HB.o.2.2.2.alloc HB.o.2.2.2.size _,λe=> ?_,by have:=HB0.o;simp;omega,?_⟩⟩
     · have:=(HB.o.2.1.lt _ e).2
       have:=HB0.o;omega
     · have:=congrArg List.length HB.o.2.2.1
       rw[qA,z0G L P,NL.o,NP.o] at this;have:=HS.o;omega
    case round=>
     obtain⟨j,r,oj,acc,rfl,q2,b1,b2,b3,HB2⟩:=hrel;by_cases c2:0<r
     · have hpn:=NP.o
       obtain⟨g',o',hg',hgs,ht⟩:=KP.o.1 (by omega);obtain⟨rfl,rfl⟩:g=g'/\o'=0:=by simp at hg';exact⟨hg'.1,hg'.2.symm⟩
       obtain⟨p,hp⟩:∃p,P[j]? =some p:=⟨_,qE (show j<P.length by omega)⟩
       obtain⟨y1,y2,y3⟩:=ht.one hp;have hoj:=HB2.o.1 c2;rw[Nat.zero_add,<-hoj] at y1 y2 y3;have hwy:=WP.o p (List.mem_of_getElem? hp);have hb:=HB2.o.2.2.2.1;have y1:=(hb.cell hgs).trans y1;have y2:=(hb.cell hgs).trans y2;have y3:=(hb.cell hgs).trans y3;obtain⟨yw,hyw⟩:∃t,p.1.wt=t:=⟨_,rfl⟩
       obtain⟨ys,hys⟩:∃t,p.1.sy=t:=⟨_,rfl⟩
       obtain⟨yp,hyp⟩:∃t,p.2=t:=⟨_,rfl⟩
       rw[hyw] at y1 hwy;rw[hys] at y2;rw[hyp] at y3;have HY:=qH (And.intro hp (And.intro hyw (And.intro hys hyp)));have HOJ:=qH hoj;have hsz2:=hb.size;clear ht hpn hp hyw hys hyp hb hoj hg';clear x1 x2 x3;by_cases c3:yw<xw
       · by_cases c4:1=r
         · subst c4
           go_wp2_with fail
           go_quiet (fail)
           have HO2:=qH (show Ow W.heap.size ((wr.drewN nq).alloc (.cells #[.int .u64 yw,.int .i64 ys,.pointer yp] 386)) _ (acc.map tr) from(HB2.o.2.1.drewN nq).alloc _);have HT2:=qH (z33 (wr.drewN nq) yw ys yp);have HS2:=qH (show W.heap.size<=((wr.drewN nq).alloc (.cells #[.int .u64 yw,.int .i64 ys,.pointer yp] 386)).heap.size by simp;omega);have HM2:=qH (show(acc.map tr).length+1<=2000 by have:=HB2.o.2.2.2.2.2.2;rw[List.length_map];omega);go_wp2_with (at_builtin;refine z0V rfl _ _ rfl W.heap.size _ (acc.map tr) [(yw,ys,yp)] rfl HO2.o _ 0 1 _ rfl rfl HT2.o HM2.o HS2.o ?_;intro v2 w2 o2 g2 d2 k2;obtain⟨O2,G2,D2,K2⟩:=qh4 o2 g2 d2 k2;have b1':=((World.cell?_of_block (a:=⟨B0,0,none⟩) (g2.block B0 (by have:=HB2.o.2.2.2.2.2.1;simp;omega) (λe=>HB2.o.2.2.2.2.1 e.symm))).trans (((Below.refl (wr.drewN nq).heap.size (wr.drewN nq)).alloc qR _).cell (by have:=HB2.o.2.2.2.2.2.1;simp;omega))).trans b1;have b2':=((World.cell?_of_block (a:=⟨B0,1,none⟩) (g2.block B0 (by have:=HB2.o.2.2.2.2.2.1;simp;omega) (λe=>HB2.o.2.2.2.2.1 e.symm))).trans (((Below.refl (wr.drewN nq).heap.size (wr.drewN nq)).alloc qR _).cell (by have:=HB2.o.2.2.2.2.2.1;simp;omega))).trans b2;have b3':=((World.cell?_of_block (a:=⟨B0,2,none⟩) (g2.block B0 (by have:=HB2.o.2.2.2.2.2.1;simp;omega) (λe=>HB2.o.2.2.2.2.1 e.symm))).trans (((Below.refl (wr.drewN nq).heap.size (wr.drewN nq)).alloc qR _).cell (by have:=HB2.o.2.2.2.2.2.1;simp;omega))).trans b3;clear o2 g2 d2 k2);go_roundw
           case rel=>
            obtain⟨a1,a2,a3,a4,a5,a6,a7⟩:=HB2.o;obtain⟨p1,p2,p3,p4⟩:=HY.o;obtain⟨l1,l2,l3,l4⟩:=HX.o;have hoj:=HOJ.o;have hq:acc++[p]++mr2 (L.drop i) (P.drop (j+1))=mr2 L P:=by
             rw[qD,List.singleton_append,<-z7E l1 p1 (by rw[p2,l2];exact c3)];exact a3
            refine⟨j+1,0,oj,acc++[p],rfl,by omega,b1',b2',b3',qH ⟨λh=>by omega,?_,hq,((z0b a4 nq).alloc (by have:=a4.size;simpa using this) _).trans D2.o,λe=> ?_,?_,?_⟩⟩
            · have:=O2.o
              rw[List.map_append];show Ow W.heap.size w2 v2 (acc.map tr++[(p.1.wt,p.1.sy,p.2)])
              rw[p2,p3,p4];exact this
            · rcases K2.o with h|h
              · rw[h] at e;exact a5 e
              · rw[h] at e
                have:=Option.some.inj e;simp at this;omega
            · have:=G2.o.size
              simp at this;omega
            · have h1:=congrArg List.length hq
              rw[qA,z0G L P,NL.o,NP.o] at h1;have:=HS.o;omega
           case measure=>simp<;>omega
         · have c5:¬r=1:=λe=>c4 e.symm
           have v1:(r:Int) - 1=((r - 1:Nat):Int):=(by omega);go_wp2_with fail
           go_quiet (fail)
           have HO2:=qH (show Ow W.heap.size ((wr.drewN nq).alloc (.cells #[.int .u64 yw,.int .i64 ys,.pointer yp] 386)) _ (acc.map tr) from(HB2.o.2.1.drewN nq).alloc _);have HT2:=qH (z33 (wr.drewN nq) yw ys yp);have HS2:=qH (show W.heap.size<=((wr.drewN nq).alloc (.cells #[.int .u64 yw,.int .i64 ys,.pointer yp] 386)).heap.size by simp;omega);have HM2:=qH (show(acc.map tr).length+1<=2000 by have:=HB2.o.2.2.2.2.2.2;rw[List.length_map];omega);go_wp2_with (at_builtin;refine z0V rfl _ _ rfl W.heap.size _ (acc.map tr) [(yw,ys,yp)] rfl HO2.o _ 0 1 _ rfl rfl HT2.o HM2.o HS2.o ?_;intro v2 w2 o2 g2 d2 k2;obtain⟨O2,G2,D2,K2⟩:=qh4 o2 g2 d2 k2;have b1':=((World.cell?_of_block (a:=⟨B0,0,none⟩) (g2.block B0 (by have:=HB2.o.2.2.2.2.2.1;simp;omega) (λe=>HB2.o.2.2.2.2.1 e.symm))).trans (((Below.refl (wr.drewN nq).heap.size (wr.drewN nq)).alloc qR _).cell (by have:=HB2.o.2.2.2.2.2.1;simp;omega))).trans b1;have b2':=((World.cell?_of_block (a:=⟨B0,1,none⟩) (g2.block B0 (by have:=HB2.o.2.2.2.2.2.1;simp;omega) (λe=>HB2.o.2.2.2.2.1 e.symm))).trans (((Below.refl (wr.drewN nq).heap.size (wr.drewN nq)).alloc qR _).cell (by have:=HB2.o.2.2.2.2.2.1;simp;omega))).trans b2;have b3':=((World.cell?_of_block (a:=⟨B0,2,none⟩) (g2.block B0 (by have:=HB2.o.2.2.2.2.2.1;simp;omega) (λe=>HB2.o.2.2.2.2.1 e.symm))).trans (((Below.refl (wr.drewN nq).heap.size (wr.drewN nq)).alloc qR _).cell (by have:=HB2.o.2.2.2.2.2.1;simp;omega))).trans b3;clear o2 g2 d2 k2);go_roundw
           case rel=>
            obtain⟨a1,a2,a3,a4,a5,a6,a7⟩:=HB2.o;obtain⟨p1,p2,p3,p4⟩:=HY.o;obtain⟨l1,l2,l3,l4⟩:=HX.o;have hoj:=HOJ.o;have hq:acc++[p]++mr2 (L.drop i) (P.drop (j+1))=mr2 L P:=by
             rw[qD,List.singleton_append,<-z7E l1 p1 (by rw[p2,l2];exact c3)];exact a3
            refine⟨j+1,r - 1,oj+3,acc++[p],by simp,by omega,b1',b2',b3',qH ⟨λh=>by omega,?_,hq,((z0b a4 nq).alloc (by have:=a4.size;simpa using this) _).trans D2.o,λe=> ?_,?_,?_⟩⟩
            · have:=O2.o
              rw[List.map_append];show Ow W.heap.size w2 v2 (acc.map tr++[(p.1.wt,p.1.sy,p.2)])
              rw[p2,p3,p4];exact this
            · rcases K2.o with h|h
              · rw[h] at e;exact a5 e
              · rw[h] at e
                have:=Option.some.inj e;simp at this;omega
            · have:=G2.o.size
              simp at this;omega
            · have h1:=congrArg List.length hq
              rw[qA,z0G L P,NL.o,NP.o] at h1;have:=HS.o;omega
           case measure=>simp<;>omega
       · have HE:=qH (show acc++[x]++mr2 (L.drop (i+1)) (P.drop j)=mr2 L P by
          rw[qD,List.singleton_append,<-z7F HX.o.1 (λp' hp'=>by
          rw[HY.o.1] at hp';obtain rfl:=Option.some.inj hp';rw[HY.o.2.1,HX.o.2.1];exact c3)];exact HB2.o.2.2.1)
         go_wp2_with fail
         go_quiet (fail)
         have HO2:=qH (show Ow W.heap.size ((wr.drewN nq).alloc (.cells #[.int .u64 xw,.int .i64 xs,.pointer xp] 386)) _ (acc.map tr) from(HB2.o.2.1.drewN nq).alloc _);have HT2:=qH (z33 (wr.drewN nq) xw xs xp);have HS2:=qH (show W.heap.size<=((wr.drewN nq).alloc (.cells #[.int .u64 xw,.int .i64 xs,.pointer xp] 386)).heap.size by have:=HB2.o.2.2.2.1.size;simp;omega);have HM2:=qH (show(acc.map tr).length+1<=2000 by have:=HB2.o.2.2.2.2.2.2;rw[List.length_map];omega);go_wp2_with (at_builtin;refine z0V rfl _ _ rfl W.heap.size _ (acc.map tr) [(xw,xs,xp)] rfl HO2.o _ 0 1 _ rfl rfl HT2.o HM2.o HS2.o ?_;intro v2 w2 o2 g2 d2 k2;obtain⟨O2,D2⟩:=qh2 o2 d2;clear o2 g2 d2 k2);go_roundw
         case rel=>
          obtain⟨a1,a2,a3,a4,a5,a6,a7⟩:=HB2.o;obtain⟨l1,l2,l3,l4⟩:=HX.o;refine⟨i+1,j,r,oj,acc++[x],by go_num,rfl,by omega,q2,qH ⟨a1,?_,HE.o,((z0b a4 nq).alloc (by have:=a4.size;simpa using this) _).trans D2.o⟩⟩;have:=O2.o;rw[List.map_append];show Ow W.heap.size w2 v2 (acc.map tr++[(x.1.wt,x.1.sy,x.2)])
          rw[l2,l3,l4];exact this
         case measure=>simp[intOf];omega
     · obtain rfl:r=0:=by omega
       have HE:=qH (show acc++[x]++mr2 (L.drop (i+1)) (P.drop j)=mr2 L P by
        rw[qD,List.singleton_append,<-z7F HX.o.1 (λp' hp'=>by
        have hpn:=NP.o;rw[List.getElem?_eq_none (by omega)] at hp';cases hp')];exact HB2.o.2.2.1)
       go_wp2_with fail
       go_quiet (fail)
       have HO2:=qH (show Ow W.heap.size ((wr.drewN nq).alloc (.cells #[.int .u64 xw,.int .i64 xs,.pointer xp] 386)) _ (acc.map tr) from(HB2.o.2.1.drewN nq).alloc _);have HT2:=qH (z33 (wr.drewN nq) xw xs xp);have HS2:=qH (show W.heap.size<=((wr.drewN nq).alloc (.cells #[.int .u64 xw,.int .i64 xs,.pointer xp] 386)).heap.size by have:=HB2.o.2.2.2.1.size;simp;omega);have HM2:=qH (show(acc.map tr).length+1<=2000 by have:=HB2.o.2.2.2.2.2.2;rw[List.length_map];omega);go_wp2_with (at_builtin;refine z0V rfl _ _ rfl W.heap.size _ (acc.map tr) [(xw,xs,xp)] rfl HO2.o _ 0 1 _ rfl rfl HT2.o HM2.o HS2.o ?_;intro v2 w2 o2 g2 d2 k2;obtain⟨O2,D2⟩:=qh2 o2 d2;clear o2 g2 d2 k2);go_roundw
       case rel=>
        obtain⟨a1,a2,a3,a4,a5,a6,a7⟩:=HB2.o;obtain⟨l1,l2,l3,l4⟩:=HX.o;refine⟨i+1,j,0,oj,acc++[x],by go_num,rfl,by omega,q2,qH ⟨a1,?_,HE.o,((z0b a4 nq).alloc (by have:=a4.size;simpa using this) _).trans D2.o⟩⟩;have:=O2.o;rw[List.map_append];show Ow W.heap.size w2 v2 (acc.map tr++[(x.1.wt,x.1.sy,x.2)])
        rw[l2,l3,l4];exact this
       case measure=>simp[intOf];omega
  · obtain rfl:i=n:=by omega
    have HT2:=qH (show Trs wr g oj ((P.drop j).map tr) by
     have hpn:=NP.o;by_cases c2:0<r
     · obtain⟨g',o',hg',hgs,ht⟩:=KP.o.1 (by omega)
       obtain⟨rfl,rfl⟩:g=g'/\o'=0:=by simp at hg';exact⟨hg'.1,hg'.2.symm⟩
       have:=(ht.below hgs HB.o.2.2.2).drop j;rw[Nat.zero_add,<-HB.o.1 c2,<-List.map_drop] at this;exact this
     · rw[List.drop_eq_nil_of_le (by omega)]
       intro i t h;simp at h)
    have HE:=qH (show acc++P.drop j=mr2 L P by
     have:=HB.o.2.2.1;rw[List.drop_eq_nil_of_le (by rw[NL.o];exact qR),z6r] at this;exact this)
    have HR:=qH (show((P.drop j).map tr).length=r by rw[List.length_map,List.length_drop,NP.o];omega)
    have HM2:=qH (show(acc.map tr).length+((P.drop j).map tr).length<=2000 by
     have:=congrArg List.length HE.o;rw[qA,z0G L P,NL.o,NP.o] at this;rw[List.length_map,List.length_map];have:=HS.o;omega)
    have HS2:=qH HB.o.2.2.2.size;have HO2:=qH HB.o.2.1;go_wp2_with (at_builtin;refine z0V rfl _ _ rfl W.heap.size _ (acc.map tr) ((P.drop j).map tr) rfl HO2.o g oj r r rfl HR.o HT2.o HM2.o HS2.o ?_;intro v2 w2 o2 g2 d2 k2;obtain⟨O2,D2⟩:=qh2 o2 d2;clear o2 g2 d2 k2);go_ret;have o2:=O2.o;rw[<-List.map_append,HE.o] at o2;have hlen:((mr2 L P).map tr).length=i+np:=(by rw[List.length_map,z0G,NL.o,NP.o]);have hb:=HB.o.2.2.2.trans D2.o;have hung:∀x∈mr2 L P,z8k w2 base x.1 x.2:=λx hx=>by
     rcases z6s x L P hx with h|h
     · exact(KL.o.2 x h).below hb
     · exact(KP.o.2 x h).below hb
    rcases o2.form with⟨h1,h2⟩|⟨g',cap,h1,h2,h3⟩
    · have h0:i+np=0:=by rw[<-hlen,h2];rfl
      refine⟨none,0,by rw[h0,<-h1];rfl,⟨λh=> ?_,hung⟩,(λb o e=>by cases e),by omega,hb⟩;rw[List.length_map] at hlen;omega
    · rw[hlen] at h1
      subst h1;refine⟨_,cap,rfl,⟨λ_=>⟨g',0,rfl,h3,o2.trs⟩,hung⟩,λb o e=> ?_,o2.cap.2.1,hb⟩;simp at e;omega
theorem zal{L:List Th}{M:Nat}(h:∀t∈L,t.wt<=M):∀k,∀t∈row L (k+1),t.wt<=M*2^k
 |0,t,ht=>by rw[zam] at ht;simpa using h t ht
 |k+1,t,ht=>by
  have ih:=zal h k;rcases(z4C t _ _).1 ht with g|g
  · exact qK (h t g) (Nat.le_mul_of_pos_right _ (Nat.two_pow_pos _))
  · have key:∀ (R:List Th),(∀u∈R,u.wt<=M*2^k)->∀u∈pks R,u.wt<=M*2^(k+1):=by
     intro R
     induction R using pks.induct with
     |case1 c d r ih2=>
      intro hr u hu;rcases List.mem_cons.1 hu with rfl|hu
      · have h1:=hr c (by simp);have h2:=hr d (by simp)
        simp only[Th.wt];rw[Nat.pow_succ,<-Nat.mul_assoc];omega
      · exact ih2 (λt ht=>hr t (by simp[ht])) u hu
     |case2 r hr=>intro _ u hu;unfold pks at hu;split at hu;exact absurd rfl (hr _ _ _);cases hu
    exact key _ ih t g
def Far(A:Option Addr)(B:Nat)(A':Option Addr):Prop:=A'=A\/∀b o,A'=some ⟨b,o,none⟩->B<=b
def zjB(W:World)(A:Option Addr)(L:List Tp)(K:Nat)(x:Ending)(w':World):Prop:=
 ∃A' n' cap X,x=.returned (.slice A' n' cap)/\X.length=n'/\n'<=cap/\X.map (·.1)=row (L.map (·.1)) K/\z0v w' W.heap.size A' X/\Far A W.heap.size A'/\Below W.heap.size W w'
theorem zao(A:Option Addr)(n c K:Nat)(L:List Tp)(W:World)(hl:L.length=n)(hn:n<=320)(hnc:n<=c)(h1:1<=K)(h2:K<=15)(HL:z0v W W.heap.size A L)(wl:∀x∈L,x.1.wt<=1073741824):
 Calls prog 304 #[.slice A n c,.int .i64 K] W (zjB W A L K):=by
 have e1:(K:Int) - 1=((K - 1:Nat):Int):=(by omega);obtain⟨z,hz⟩:∃z,K - 1=z:=⟨_,rfl⟩
 rw[hz] at e1;obtain⟨HZ,NL,KL,WL⟩:=qh4 hz hl HL wl;clear hz hl HL wl;go_enter func304,ntmps304;go_wp2_with fail
 go_loopw [5,9] (λv i wr=> ∃ (j:Nat) (A':Option Addr) (n' cap:Nat) (X:List Tp),i=.int .i64 j/\v=.slice A' n' cap/\j<=z/\n'<=640/\n'<=cap/\Hd (X.length=n'/\X.map (·.1)=row (L.map (·.1)) (j+1)/\z0v wr W.heap.size A' X/\Far A W.heap.size A'/\Below W.heap.size W wr)) (λ_ i _=>z - (intOf i).toNat)
 case atStart=>exact⟨0,A,n,c,L,rfl,rfl,qZ,by omega,hnc,qH ⟨NL.o,(zam _).symm,KL.o,.inl rfl,Below.refl _ _⟩⟩
 case round=>
  obtain⟨j,A',n',cap,X,rfl,rfl,q1,q2,q3,HB⟩:=hrel;by_cases c1:j<z
  · have HWX:=qH (show ∀x∈X,x.1.wt<=1125899906842624/2 from λx hx=>by
     have h3:x.1∈row (L.map (·.1)) (j+1):=(by rw[<-HB.o.2.1];exact List.mem_map_of_mem hx);have h4:=zal (M:=1073741824) (λt ht=>by
      obtain⟨y,hy,rfl⟩:=List.mem_map.1 ht;exact WL.o y hy) j _ h3
     have hz:=HZ.o;have h5:1073741824*2^j<=1073741824*2^14:=Nat.mul_le_mul_left _ (Nat.pow_le_pow_right (by omega) (by omega));omega)
    have HR:=qH HB.o.1;have HT:=qH HB.o.2.2.1;have HS:=qH HB.o.2.2.2.2.size;go_wp2_with fail;refine(zdt A' n' cap W.heap.size X _ HR.o (by omega) HS.o (λx hx=>by have:=HWX.o x hx;omega) HT.o).mono ?_;rintro x w1 ⟨g,gp,rfl,t1,b1⟩;obtain⟨T1,B1⟩:=qh2 t1 b1;have hnp:n' /2<=600:=(by omega);generalize hnp':n' /2=np at hnp ⊢;have HNP:=qH hnp';clear t1 b1 hnp';go_wp2_with fail;refine(zb2 A n c W.heap.size g np L (pkt gp X) _ NL.o (by rw[z0Y,HR.o];exact HNP.o) (by omega) hnp (KL.o.below (HB.o.2.2.2.2.trans (B1.o.mono HS.o))) T1.o (λx hx=>by have:=WL.o x hx;omega) (λx hx=>by
     obtain⟨i,hi,rfl⟩:=List.getElem_of_mem hx;have hi':=hi;rw[z0Y] at hi';have e:=z7v gp X hi';rw[qE hi] at e;rw[Option.some.inj e];have l1:2*i<X.length:=(by omega);have l2:2*i+1<X.length:=(by omega);have m1:X.getD (2*i) tp0∈X:=(by rw[List.getD,qE l1];exact List.getElem_mem l1);have m2:X.getD (2*i+1) tp0∈X:=(by rw[List.getD,qE l2];exact List.getElem_mem l2);have:=HWX.o _ m1;have:=HWX.o _ m2;simp only[Th.wt];omega)).mono ?_;rintro x w2 ⟨A2,cap2,rfl,t2,a2,g2,b2⟩
    have F2:=qH (And.intro t2 (And.intro a2 b2));clear t2 a2 b2;generalize hn2:n+np=n2 at g2 ⊢;have HN2:=qH hn2;clear hn2;go_wp2_with fail;go_roundw
    case rel=>
     obtain⟨t2,a2,b2⟩:=F2.o;have hnp:=HNP.o;have hn2:=HN2.o;have hx:=HR.o;refine⟨j+1,A2,n2,cap2,_,by go_num,rfl,by omega,by omega,g2,qH ⟨?_,?_,t2,?_,?_⟩⟩
     · rw[z0G,z0Y,NL.o];omega
     · rw[z4D,zgL,HB.o.2.1];rfl
     · exact .inr (λb o e=>by have:=a2 b o e;have:=HS.o;have:=B1.o.size;omega)
     · exact(HB.o.2.2.2.2.trans (B1.o.mono HS.o)).trans (b2.mono (by have:=HS.o;have:=B1.o.size;omega))
    case measure=>simp[intOf];omega
  · obtain rfl:j=z:=by omega
    go_wp2_with fail;go_ret;obtain⟨a1,a2,a3,a4,a5⟩:=HB.o;have hz:=HZ.o;exact⟨_,_,_,_,rfl,a1,q3,by rw[a2,<-hz];congr 1;omega,a3,a4,a5⟩
