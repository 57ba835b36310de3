/- Texts of one place, one behind the other: SoC, SoD, SoE, SoF. -/
import Derived.Test.YtacelhaidcmbcaaGreatDoorTSoB
import Derived.Deep.RegionHeld3
import Derived.Deep.QuietTactic
import Derived.Test.YtacelhaidcmbcaaGreatDoorTMMathT
set_option maxHeartbeats 8000000
set_option maxRecDepth 1000000
set_option linter.unusedVariables false
namespace Go.Proofs.YtacelhaidcmbcaaGreatDoor
open Go.Lib (hid)
open Go.RowKit M
theorem z3o{x y:Nat}(h:x<y):decide (cmv x y<0)=true:=q9T (by unfold cmv;rw[if_pos h];omega)
theorem z3n{x y:Nat}(h:¬x<y):decide (cmv x y<0)=false:=qF (by unfold cmv;rw[if_neg h];split<;>omega)
theorem z54{e e1:Nat→Nat×Nat}{a i d j:Nat}(hi:a<i)(hd:i<d)(ho:Ord e1 a i)(hm:z0O e e1 a (min i d))(hr:∀t,a≤t→t<i→(e1 t).1=(e1 i).1→(e1 t).2<(e1 i).2)
 (h1:a≤j) (h2:j≤i) (hj:∀t,j≤t→t<i→(e1 i).1<(e1 t).1) (hs:j=a∨¬(e1 i).1<(e1 (j - 1)).1):Ord (mvd e1 j i) a (i+1)∧z0O e (mvd e1 j i) a (min (i+1) d):=by
 refine⟨z4T ho hr h1 h2 hj (by omega),?_⟩;rw[Nat.min_eq_left (by omega)] at hm ⊢;exact(hm.wide qR (by omega)).trans (z2H e1 h1 h2 (by omega))
theorem zbt(b n c a d:Nat)(e:Nat→Nat×Nat)(W:World)(hn:n≤400)(had:a≤d)(hd:d≤n)(hs:∀i j,a≤i→i<j→j<d→(e i).2<(e j).2)(H:Lfs W b n e):
 Calls Tryz.prog 187 #[.slice (some ⟨b,0,none⟩) n c,.int .i64 a,.int .i64 d,.func (.func 163) #[] #[]] W fun x w'=>x=.returned (.tuple #[])∧∃e',Lfs w' b n e'∧Ord e' a d∧z0O e e' a d∧Kept (One b) W w':=by
 have HW:=hid H;have HS:=hid hs;clear H hs;go_enter Tryz.func187,Tryz.ntmps187;go_wp2_with fail
 go_loopw [8] (fun v wr=> ∃ (i:Nat) (e1:Nat→Nat×Nat),v=.int .i64 i∧a<i∧(i≤d∨i=a+1)∧Lfs wr b n e1∧Hid (Ord e1 a i∧z0O e e1 a (min i d)∧Kept (One b) W wr)) (fun v _=>401 - (intOf v).toNat)
 case atStart=>exact⟨a+1,e,by go_num,by omega,.inr rfl,HW.out,hid ⟨fun i j h1 h2 h3=>by omega,z0O.refl _ _ _,Kept.refl _ _⟩⟩
 case round=>
  obtain⟨i,e1,rfl,p1,p2,hl,HI⟩:=hrel;by_cases c1:i<d
  · have HL:=hid hl
    clear hl p2
    have HR:Hid (∀t,a≤t→t<i→(e1 t).1=(e1 i).1→(e1 t).2<(e1 i).2):=hid (fun t g1 g2 _=>by
     obtain⟨ho,hm,hk⟩:=HI.out;rw[Nat.min_eq_left (by omega)] at hm;obtain⟨j,j1,j2,q⟩:=hm.fro t g1 g2;rw[q,hm.out i (.inr qR)];exact HS.out j i j1 j2 c1)
    go_wp2_with fail
    go_loopw [9] (fun v ws=> ∃ (j:Nat),v=.int .i64 j∧a≤j∧j≤i∧Lfs ws b n (mvd e1 j i)∧Hid ((∀t,j≤t→t<i→(e1 i).1<(e1 t).1)∧Kept (One b) W ws)) (fun v _=>(intOf v).toNat)
    case atStart=>exact⟨i,rfl,by omega,qR,HL.out.congr (fun t _=>(z4S e1 i t).symm),hid ⟨fun t g1 g2=>by omega,HI.out.2.2⟩⟩
    case round=>
     obtain⟨j,rfl,q1,q2,hl,HJ⟩:=hrel;by_cases c2:a<j
     · obtain⟨z,hz⟩:∃z,j - 1=z:=⟨_,rfl⟩
       obtain⟨x1,x2,x3⟩:=hl.cells (show j<n by omega);obtain⟨y1,y2,y3⟩:=hl.cells (show z<n by omega);have fx:=hl.frozen (j*3);have fx1:=hl.frozen (j*3+1);have fx2:=hl.frozen (j*3+2);have fy:=hl.frozen (z*3);have fy1:=hl.frozen (z*3+1);have fy2:=hl.frozen (z*3+2);have hv1:mvd e1 j i j=e1 i:=by unfold mvd;rw[if_pos rfl]
       have hv2:mvd e1 j i z=e1 z:=by unfold mvd;rw[if_neg (by omega),if_neg (by omega)]
       rw[hv1] at x1 x2;rw[hv2] at y1 y2;obtain⟨u1,hu1⟩:∃u,(e1 i).1=u:=⟨_,rfl⟩
       obtain⟨u2,hu2⟩:∃u,(e1 i).2=u:=⟨_,rfl⟩
       obtain⟨v1,hw1⟩:∃u,(e1 z).1=u:=⟨_,rfl⟩
       obtain⟨v2,hw2⟩:∃u,(e1 z).2=u:=⟨_,rfl⟩
       rw[hu1] at x1;rw[hu2] at x2;rw[hw1] at y1;rw[hw2] at y2;have HU:=hid (And.intro hu1 (And.intro hu2 (And.intro hw1 hw2)));have HZ:=hid hz;have HL2:=hid hl;have hzn:z<n:=by omega
       have hjn:j<n:=by omega
       have hzj:z<j:=by omega
       have ez:IntKind.i64.wrap ((j:Int) - 1)=(z:Int):=by rw[IntWalk.i64_in _ (by omega)];omega
       have ez2:(j:Int) - 1=(z:Int):=by omega
       have ez3:IntKind.i64.wrap (z:Int)=(z:Int):=IntWalk.i64_in _ (by omega);have ez4:((z:Int)).toNat=z:=by omega
       have ez5:((j:Int)).toNat=j:=by omega
       obtain⟨t,ht⟩:∃t,cmv u1 v1=t:=⟨_,rfl⟩
       have cc:=fun w=>less_any u1 u2 v1 v2 w
       rw[ht] at cc;have CC:=hid cc;clear cc;have g2:decide (a<j)=true:=q9T c2;clear hl hv1 hv2 hu1 hu2 hw1 hw2 hz;by_cases c3:u1<v1
       · have hd3:=z3o c3
         rw[ht] at hd3;clear ht;go_wp2_with fail
         go_region_held3 (fun w'=>w'.cell? ⟨b,j*3,none⟩=some (.int .u64 u1)∧w'.cell? ⟨b,j*3+1,none⟩=some (.int .i64 u2)∧w'.cell? ⟨b,j*3+2,none⟩=some (.pointer none)∧w'.cell? ⟨b,z*3,none⟩=some (.int .u64 v1)∧w'.cell? ⟨b,z*3+1,none⟩=some (.int .i64 v2)∧w'.cell? ⟨b,z*3+2,none⟩=some (.pointer none)) (first|exact⟨k1,k2,k3,k4,k5,k6⟩|exact⟨x1,x2,x3,y1,y2,y3⟩) (first
          |((with_reducible refine(CC.out _).mono ?_);rintro x w3 ⟨rfl,b3⟩;have k1:=(b3.cell (qB x1)).trans x1;have k2:=(b3.cell (qB x2)).trans x2;have k3:=(b3.cell (qB x3)).trans x3;have k4:=(b3.cell (qB y1)).trans y1;have k5:=(b3.cell (qB y2)).trans y2;have k6:=(b3.cell (qB y3)).trans y3;have B3:=hid b3;clear b3))
         have L3:Lfs w3 b n (mvd e1 j i):=HL2.out.drew.below B3.out HL2.out.lt;have K3:Hid (Kept (One b) W w3):=hid ((HJ.out.2.drew).trans (Kept.of_below B3.out) (fun _ g=>g.elim));have gx:=L3.frozen (j*3);have gx1:=L3.frozen (j*3+1);have gx2:=L3.frozen (j*3+2);have gy:=L3.frozen (z*3);have gy1:=L3.frozen (z*3+1);have gy2:=L3.frozen (z*3+2);have hs:=(L3.swap (i:=j) (j:=z)).congr (e':=mvd e1 z i) (fun t _=>(z5A (by omega) t).trans (by rw[←HZ.out];exact z2G e1 (by omega) q2 t));have hv1:mvd e1 j i j=e1 i:=by unfold mvd;rw[if_pos rfl]
         have hv2:mvd e1 j i z=e1 z:=by unfold mvd;rw[if_neg (by omega),if_neg (by omega)]
         rw[hv1,hv2,HU.out.1,HU.out.2.1,HU.out.2.2.1,HU.out.2.2.2] at hs;have HS3:=hid hs;have HL3:=hid L3;clear hs hv1 hv2 L3 x1 x2 x3 y1 y2 y3 fx fx1 fx2 fy fy1 fy2 HL2 B3;go_wp2_with fail
         go_region
         go_wp2_with fail;go_roundw
         case rel=>exact⟨z,rfl,by omega,by omega,HS3.out.drew,hid ⟨fun t g1 g2=>by
          by_cases q:t=z
          · rw[q,HU.out.1,HU.out.2.2.1];exact c3
          · exact HJ.out.1 t (by have:=HZ.out;omega) g2,(zdP K3.out _ _ _ _ _ _ _ _ _ _ _ _).drew⟩⟩
         case measure=>simp[intOf];omega
       · have hd3:=z3n c3
         rw[ht] at hd3;clear ht;go_wp2_with fail
         go_region_held3 (fun w'=>w'.cell? ⟨b,j*3,none⟩=some (.int .u64 u1)∧w'.cell? ⟨b,j*3+1,none⟩=some (.int .i64 u2)∧w'.cell? ⟨b,j*3+2,none⟩=some (.pointer none)∧w'.cell? ⟨b,z*3,none⟩=some (.int .u64 v1)∧w'.cell? ⟨b,z*3+1,none⟩=some (.int .i64 v2)∧w'.cell? ⟨b,z*3+2,none⟩=some (.pointer none)) (first|exact⟨k1,k2,k3,k4,k5,k6⟩|exact⟨x1,x2,x3,y1,y2,y3⟩) (first
          |((with_reducible refine(CC.out _).mono ?_);rintro x w3 ⟨rfl,b3⟩;have k1:=(b3.cell (qB x1)).trans x1;have k2:=(b3.cell (qB x2)).trans x2;have k3:=(b3.cell (qB x3)).trans x3;have k4:=(b3.cell (qB y1)).trans y1;have k5:=(b3.cell (qB y2)).trans y2;have k6:=(b3.cell (qB y3)).trans y3;have B3:=hid b3;clear b3))
         have L3:Lfs w3 b n (mvd e1 j i):=HL2.out.drew.below B3.out HL2.out.lt;have K3:Hid (Kept (One b) W w3):=hid ((HJ.out.2.drew).trans (Kept.of_below B3.out) (fun _ g=>g.elim));have gx:=L3.frozen (j*3);have gx1:=L3.frozen (j*3+1);have gx2:=L3.frozen (j*3+2);have gy:=L3.frozen (z*3);have gy1:=L3.frozen (z*3+1);have gy2:=L3.frozen (z*3+2);have hs:=(L3.swap (i:=j) (j:=z)).congr (e':=mvd e1 z i) (fun t _=>(z5A (by omega) t).trans (by rw[←HZ.out];exact z2G e1 (by omega) q2 t));have hv1:mvd e1 j i j=e1 i:=by unfold mvd;rw[if_pos rfl]
         have hv2:mvd e1 j i z=e1 z:=by unfold mvd;rw[if_neg (by omega),if_neg (by omega)]
         rw[hv1,hv2,HU.out.1,HU.out.2.1,HU.out.2.2.1,HU.out.2.2.2] at hs;have HS3:=hid hs;have HL3:=hid L3;clear hs hv1 hv2 L3 x1 x2 x3 y1 y2 y3 fx fx1 fx2 fy fy1 fy2 HL2 B3;have ST:=hid (z54 p1 c1 HI.out.1 HI.out.2.1 HR.out q1 q2 HJ.out.1 (.inr (by rw[HZ.out,HU.out.1,HU.out.2.2.1];exact c3)));go_wp2_with fail;go_roundw
         case rel=>exact⟨i+1,_,by go_num,by omega,.inl (by omega),HL3.out,hid ⟨ST.out.1,ST.out.2,K3.out⟩⟩
         case measure=>simp[intOf];omega
     · have g2:decide (a<j)=false:=qF c2
       have HL2:=hid hl;have ST:=hid (z54 p1 c1 HI.out.1 HI.out.2.1 HR.out q1 q2 HJ.out.1 (.inl (by omega)));clear hl;go_wp2_with fail
       go_quiet (fail)
       go_wp2_with fail;go_roundw
       case rel=>exact⟨i+1,_,by go_num,by omega,.inl (by omega),HL2.out.drew,hid ⟨ST.out.1,ST.out.2,HJ.out.2.drewN _⟩⟩
       case measure=>simp[intOf];omega
  · have HL:=hid hl
    have HD:Hid (Ord e1 a d∧z0O e e1 a d):=hid (by
     obtain⟨h1,h2,h3⟩:=HI.out;rw[Nat.min_eq_right (by omega)] at h2;exact⟨h1.sub qR (by omega),h2⟩)
    clear hl p2;go_wp2_with fail;go_end0;exact⟨rfl,e1,HL.out,HD.out.1,HD.out.2,HI.out.2.2⟩
theorem z2j(i j s h:Nat)(h1:i+j=s)(h2:s/2=h)(h3:s≤1000):(i:Int)+(j:Int)=(s:Int)∧(s:Int) /2=(h:Int):=by omega
theorem zfF(b n c a m d:Nat)(e:Nat→Nat×Nat)(W:World)(hn:n≤400)(ham:a<m)(hmd:m<d)(hd:d≤n)(ol:Ord e a m)(or:Ord e m d)(hr:Rel e a m d)(H:Lfs W b n e)(h1:m=a+1):
 Calls Tryz.prog 188 #[.slice (some ⟨b,0,none⟩) n c,.int .i64 a,.int .i64 m,.int .i64 d,.func (.func 163) #[] #[]] W fun x w'=>x=.returned (.tuple #[])∧∃e',Lfs w' b n e'∧Ord e' a d∧z0O e e' a d∧Kept (One b) W w':=by
 have d1:(m:Int) - (a:Int)=1:=by omega
 have HW:=hid H;have OR:=hid (show Ord e (a+1) d by rw[←h1];exact or);have HR:=hid (show ∀t,a+1≤t→t<d→(e a).1=(e t).1→(e a).2<(e t).2 from fun t g1 g2=>hr a t qR ham (by omega) g2);have HN:=hid hn;have HM:=hid h1;clear H ol or hr h1;go_enter Tryz.func188,Tryz.ntmps188;go_wp2_with fail
 go_loopw [10,11] (fun x y wr=> ∃ (i j:Nat),x=.int .i64 i∧y=.int .i64 j∧m≤i∧i≤j∧j≤d∧Hid ((i=m∨(e (i - 1)).1<(e a).1)∧(j=d∨(e a).1≤(e j).1))∧Lfs wr b n e∧Kept (One b) W wr) (fun x y _=>(intOf y).toNat - (intOf x).toNat)
 case atStart=>exact⟨m,d,rfl,rfl,qR,by omega,qR,hid ⟨.inl rfl,.inl rfl⟩,HW.out,Kept.refl _ _⟩
 case round=>
  obtain⟨i,j,rfl,rfl,q1,q2,q3,HI,hl,hk⟩:=hrel;by_cases c1:i<j
  · obtain⟨s,hs⟩:∃s,i+j=s:=⟨_,rfl⟩
    obtain⟨h,hh⟩:∃h,s/2=h:=⟨_,rfl⟩
    obtain⟨e1,e2⟩:=z2j i j s h hs hh (by omega);have e3:IntKind.i64.wrap (h:Int)=(h:Int):=IntWalk.i64_in _ (by omega);have e4:IntKind.i64.wrap (a:Int)=(a:Int):=IntWalk.i64_in _ (by omega);have e5:((h:Int)).toNat=h:=by omega
    have e6:((a:Int)).toNat=a:=by omega
    have hs0:s≤1000:=by omega
    have g1:i≤h:=by omega
    have g2:h<j:=by omega
    clear hs hh;obtain⟨x1,x2,x3⟩:=(hl).cells (show h<n by omega);obtain⟨y1,y2,y3⟩:=(hl).cells (show a<n by omega);obtain⟨u1,hu1⟩:∃x0,(e h).1=x0:=⟨_,rfl⟩
    obtain⟨u2,hu2⟩:∃x0,(e h).2=x0:=⟨_,rfl⟩
    obtain⟨v1,hw1⟩:∃x0,(e a).1=x0:=⟨_,rfl⟩
    obtain⟨v2,hw2⟩:∃x0,(e a).2=x0:=⟨_,rfl⟩
    rw[hu1] at x1;rw[hu2] at x2;rw[hw1] at y1;rw[hw2] at y2;have HU:=hid (And.intro hu1 (And.intro hu2 (And.intro hw1 hw2)));have HLL:=hid hl;have HKK:=hid hk;obtain⟨t,ht⟩:∃t,cmv u1 v1=t:=⟨_,rfl⟩
    have cc:=fun w=>less_any u1 u2 v1 v2 w
    rw[ht] at cc;have CC:=hid cc;have hpn:h<n:=by omega
    have hqn:a<n:=by omega
    clear cc hu1 hu2 hw1 hw2 hl hk;by_cases c3:u1<v1
    · have hd3:=z3o c3
      rw[ht] at hd3;clear ht;go_wp2_with fail
      go_region_held3 (fun w'=>w'.cell? ⟨b,h*3,none⟩=some (.int .u64 u1)∧w'.cell? ⟨b,h*3+1,none⟩=some (.int .i64 u2)∧w'.cell? ⟨b,h*3+2,none⟩=some (.pointer none)∧w'.cell? ⟨b,a*3,none⟩=some (.int .u64 v1)∧w'.cell? ⟨b,a*3+1,none⟩=some (.int .i64 v2)∧w'.cell? ⟨b,a*3+2,none⟩=some (.pointer none)) (first|exact⟨k1,k2,k3,k4,k5,k6⟩|exact⟨x1,x2,x3,y1,y2,y3⟩) (first
       |((with_reducible refine(CC.out _).mono ?_);rintro x w3 ⟨rfl,b3⟩;have k1:=(b3.cell (qB x1)).trans x1;have k2:=(b3.cell (qB x2)).trans x2;have k3:=(b3.cell (qB x3)).trans x3;have k4:=(b3.cell (qB y1)).trans y1;have k5:=(b3.cell (qB y2)).trans y2;have k6:=(b3.cell (qB y3)).trans y3;have B3:=hid b3;clear b3))
      have L3:=hid (HLL.out.drew.below B3.out HLL.out.lt);have K3:Hid (Kept (One b) W w3):=hid ((HKK.out.drew).trans (Kept.of_below B3.out) (fun _ g=>g.elim));clear x1 x2 x3 y1 y2 y3 k1 k2 k3 k4 k5 k6 B3;have C3:=hid (show(e h).1<(e a).1 by rw[HU.out.1,HU.out.2.2.1];exact c3);clear c3;go_wp2_with fail;go_roundw
      case rel=>exact⟨h+1,j,by go_num,rfl,by omega,by omega,q3,hid ⟨.inr (by rw[Nat.add_sub_cancel];exact C3.out),HI.out.2⟩,L3.out,K3.out⟩
      case measure=>simp[intOf];omega
    · have hd3:=z3n c3
      rw[ht] at hd3;clear ht;go_wp2_with fail
      go_region_held3 (fun w'=>w'.cell? ⟨b,h*3,none⟩=some (.int .u64 u1)∧w'.cell? ⟨b,h*3+1,none⟩=some (.int .i64 u2)∧w'.cell? ⟨b,h*3+2,none⟩=some (.pointer none)∧w'.cell? ⟨b,a*3,none⟩=some (.int .u64 v1)∧w'.cell? ⟨b,a*3+1,none⟩=some (.int .i64 v2)∧w'.cell? ⟨b,a*3+2,none⟩=some (.pointer none)) (first|exact⟨k1,k2,k3,k4,k5,k6⟩|exact⟨x1,x2,x3,y1,y2,y3⟩) (first
       |((with_reducible refine(CC.out _).mono ?_);rintro x w3 ⟨rfl,b3⟩;have k1:=(b3.cell (qB x1)).trans x1;have k2:=(b3.cell (qB x2)).trans x2;have k3:=(b3.cell (qB x3)).trans x3;have k4:=(b3.cell (qB y1)).trans y1;have k5:=(b3.cell (qB y2)).trans y2;have k6:=(b3.cell (qB y3)).trans y3;have B3:=hid b3;clear b3))
      have L3:=hid (HLL.out.drew.below B3.out HLL.out.lt);have K3:Hid (Kept (One b) W w3):=hid ((HKK.out.drew).trans (Kept.of_below B3.out) (fun _ g=>g.elim));clear x1 x2 x3 y1 y2 y3 k1 k2 k3 k4 k5 k6 B3;have C3:=hid (show ¬(e h).1<(e a).1 by rw[HU.out.1,HU.out.2.2.1];exact c3);clear c3;go_wp2_with fail;go_roundw
      case rel=>exact⟨i,h,rfl,rfl,by omega,by omega,by omega,hid ⟨HI.out.1,.inr (Nat.le_of_not_lt C3.out)⟩,L3.out,K3.out⟩
      case measure=>simp[intOf];omega
  · obtain rfl:i=j:=by omega
    have HL:=hid hl;have HK:=hid hk;clear hl hk;go_wp2_with fail
    go_loopw [13] (fun v ws=> ∃ (k:Nat),v=.int .i64 k∧a≤k∧k≤i - 1∧Lfs ws b n (mvu e a k)∧Kept (One b) W ws) (fun v _=>i - (intOf v).toNat)
    case atStart=>exact⟨a,rfl,qR,by omega,HL.out.congr (fun t _=>(zdz e a t).symm),HK.out⟩
    case round=>
     obtain⟨k,rfl,r1,r2,hl,hk⟩:=hrel;have HL2:=hid hl;have HK2:=hid hk;clear hl hk;have w1:(i:Int) - 1=((i - 1:Nat):Int):=by omega
     obtain⟨z,hz⟩:∃z,i - 1=z:=⟨_,rfl⟩
     rw[hz] at w1 r2;have HZ:=hid hz;by_cases c2:k<z
     · obtain⟨y,hy⟩:∃y,k+1=y:=⟨_,rfl⟩
       have w2:IntKind.i64.wrap ((k:Int)+1)=(y:Int):=by rw[IntWalk.i64_in _ (by omega)];omega
       have w3:(k:Int)+1=(y:Int):=by omega
       have w4:IntKind.i64.wrap (y:Int)=(y:Int):=IntWalk.i64_in _ (by omega);have hyk:k<y:=by omega
       have hyz:y≤z:=by omega
       obtain⟨x1,x2,x3⟩:=HL2.out.cells (show k<n by omega);obtain⟨y1,y2,y3⟩:=HL2.out.cells (show y<n by omega);have fx:=HL2.out.frozen (k*3);have fx1:=HL2.out.frozen (k*3+1);have fx2:=HL2.out.frozen (k*3+2);have fy:=HL2.out.frozen (y*3);have fy1:=HL2.out.frozen (y*3+1);have fy2:=HL2.out.frozen (y*3+2);have hs:=(HL2.out.swap (i:=k) (j:=y)).congr (e':=mvu e a y) (fun t _=>(z5A (by omega) t).trans (by rw[←hy];exact zdy e r1 t));obtain⟨u1,hu1⟩:∃x0,(mvu e a k k).1=x0:=⟨_,rfl⟩
       obtain⟨u2,hu2⟩:∃x0,(mvu e a k k).2=x0:=⟨_,rfl⟩
       obtain⟨v1,hw1⟩:∃x0,(mvu e a k y).1=x0:=⟨_,rfl⟩
       obtain⟨v2,hw2⟩:∃x0,(mvu e a k y).2=x0:=⟨_,rfl⟩
       rw[hu1] at x1 hs;rw[hu2] at x2 hs;rw[hw1] at y1 hs;rw[hw2] at y2 hs;have HS:=hid hs;have hpn:k<n:=by omega
       have hqn:y<n:=by omega
       clear hs hu1 hu2 hw1 hw2;have HY:=hid hy;clear hy hz;go_wp2_with fail
       go_region
       go_wp2_with fail;go_roundw
       case rel=>exact⟨y,rfl,by omega,by have hz:=HZ.out;omega,HS.out.drew,(zdP HK2.out _ _ _ _ _ _ _ _ _ _ _ _).drew⟩
       case measure=>have hz:=HZ.out;simp[intOf];omega
     · obtain rfl:k=z:=by omega
       have HO:Hid (Ord (mvu e a k) a d∧z0O e (mvu e a k) a d):=hid (by
        have hm:=HM.out;refine⟨?_,zdA e qR r1 (by omega)⟩;rw[←hz];exact zgq OR.out HR.out (by omega) q3 (by have:=HI.out.1;omega) HI.out.2)
       clear hz;go_wp2_with fail;refine bodyPost_ret (results_none rfl _ _ _) rfl ?_
       exact⟨rfl,_,HL2.out,HO.out.1,HO.out.2,HK2.out⟩
theorem zfE(b n c a m d:Nat)(e:Nat→Nat×Nat)(W:World)(hn:n≤400)(ham:a<m)(hmd:m<d)(hd:d≤n)(ol:Ord e a m)(or:Ord e m d)(hr:Rel e a m d)(H:Lfs W b n e)(h1:m≠a+1)(h2:d=m+1):
 Calls Tryz.prog 188 #[.slice (some ⟨b,0,none⟩) n c,.int .i64 a,.int .i64 m,.int .i64 d,.func (.func 163) #[] #[]] W fun x w'=>x=.returned (.tuple #[])∧∃e',Lfs w' b n e'∧Ord e' a d∧z0O e e' a d∧Kept (One b) W w':=by
 have d1:((m:Int) - (a:Int)==1)=false:=by rw[qN];omega
 have d2:(d:Int) - (m:Int)=1:=by omega
 have HW:=hid H;have OL:=hid ol;have HR:=hid (show ∀t,a≤t→t<m→(e t).1=(e m).1→(e t).2<(e m).2 from fun t g1 g2=>hr t m g1 g2 qR hmd);have HN:=hid hn;have HM:=hid h2;clear H ol or hr h1 h2;go_enter Tryz.func188,Tryz.ntmps188;go_wp2_with fail
 go_loopw [14,15] (fun x y wr=> ∃ (i j:Nat),x=.int .i64 i∧y=.int .i64 j∧a≤i∧i≤j∧j≤m∧Hid ((i=a∨¬(e m).1<(e (i - 1)).1)∧(j=m∨(e m).1<(e j).1))∧Lfs wr b n e∧Kept (One b) W wr) (fun x y _=>(intOf y).toNat - (intOf x).toNat)
 case atStart=>exact⟨a,m,rfl,rfl,qR,by omega,qR,hid ⟨.inl rfl,.inl rfl⟩,HW.out,Kept.refl _ _⟩
 case round=>
  obtain⟨i,j,rfl,rfl,q1,q2,q3,HI,hl,hk⟩:=hrel;by_cases c1:i<j
  · obtain⟨s,hs⟩:∃s,i+j=s:=⟨_,rfl⟩
    obtain⟨h,hh⟩:∃h,s/2=h:=⟨_,rfl⟩
    obtain⟨e1,e2⟩:=z2j i j s h hs hh (by omega);have e3:IntKind.i64.wrap (h:Int)=(h:Int):=IntWalk.i64_in _ (by omega);have e4:IntKind.i64.wrap (m:Int)=(m:Int):=IntWalk.i64_in _ (by omega);have e5:((h:Int)).toNat=h:=by omega
    have e6:((m:Int)).toNat=m:=by omega
    have hs0:s≤1000:=by omega
    have g1:i≤h:=by omega
    have g2:h<j:=by omega
    clear hs hh;obtain⟨x1,x2,x3⟩:=(hl).cells (show m<n by omega);obtain⟨y1,y2,y3⟩:=(hl).cells (show h<n by omega);obtain⟨u1,hu1⟩:∃x0,(e m).1=x0:=⟨_,rfl⟩
    obtain⟨u2,hu2⟩:∃x0,(e m).2=x0:=⟨_,rfl⟩
    obtain⟨v1,hw1⟩:∃x0,(e h).1=x0:=⟨_,rfl⟩
    obtain⟨v2,hw2⟩:∃x0,(e h).2=x0:=⟨_,rfl⟩
    rw[hu1] at x1;rw[hu2] at x2;rw[hw1] at y1;rw[hw2] at y2;have HU:=hid (And.intro hu1 (And.intro hu2 (And.intro hw1 hw2)));have HLL:=hid hl;have HKK:=hid hk;obtain⟨t,ht⟩:∃t,cmv u1 v1=t:=⟨_,rfl⟩
    have cc:=fun w=>less_any u1 u2 v1 v2 w
    rw[ht] at cc;have CC:=hid cc;have hpn:m<n:=by omega
    have hqn:h<n:=by omega
    clear cc hu1 hu2 hw1 hw2 hl hk;by_cases c3:u1<v1
    · have hd3:=z3o c3
      rw[ht] at hd3;clear ht;go_wp2_with fail
      go_region_held3 (fun w'=>w'.cell? ⟨b,m*3,none⟩=some (.int .u64 u1)∧w'.cell? ⟨b,m*3+1,none⟩=some (.int .i64 u2)∧w'.cell? ⟨b,m*3+2,none⟩=some (.pointer none)∧w'.cell? ⟨b,h*3,none⟩=some (.int .u64 v1)∧w'.cell? ⟨b,h*3+1,none⟩=some (.int .i64 v2)∧w'.cell? ⟨b,h*3+2,none⟩=some (.pointer none)) (first|exact⟨k1,k2,k3,k4,k5,k6⟩|exact⟨x1,x2,x3,y1,y2,y3⟩) (first
       |((with_reducible refine(CC.out _).mono ?_);rintro x w3 ⟨rfl,b3⟩;have k1:=(b3.cell (qB x1)).trans x1;have k2:=(b3.cell (qB x2)).trans x2;have k3:=(b3.cell (qB x3)).trans x3;have k4:=(b3.cell (qB y1)).trans y1;have k5:=(b3.cell (qB y2)).trans y2;have k6:=(b3.cell (qB y3)).trans y3;have B3:=hid b3;clear b3))
      have L3:=hid (HLL.out.drew.below B3.out HLL.out.lt);have K3:Hid (Kept (One b) W w3):=hid ((HKK.out.drew).trans (Kept.of_below B3.out) (fun _ g=>g.elim));clear x1 x2 x3 y1 y2 y3 k1 k2 k3 k4 k5 k6 B3;have C3:=hid (show(e m).1<(e h).1 by rw[HU.out.1,HU.out.2.2.1];exact c3);clear c3;go_wp2_with fail;go_roundw
      case rel=>exact⟨i,h,rfl,rfl,by omega,by omega,by omega,hid ⟨HI.out.1,.inr C3.out⟩,L3.out,K3.out⟩
      case measure=>simp[intOf];omega
    · have hd3:=z3n c3
      rw[ht] at hd3;clear ht;go_wp2_with fail
      go_region_held3 (fun w'=>w'.cell? ⟨b,m*3,none⟩=some (.int .u64 u1)∧w'.cell? ⟨b,m*3+1,none⟩=some (.int .i64 u2)∧w'.cell? ⟨b,m*3+2,none⟩=some (.pointer none)∧w'.cell? ⟨b,h*3,none⟩=some (.int .u64 v1)∧w'.cell? ⟨b,h*3+1,none⟩=some (.int .i64 v2)∧w'.cell? ⟨b,h*3+2,none⟩=some (.pointer none)) (first|exact⟨k1,k2,k3,k4,k5,k6⟩|exact⟨x1,x2,x3,y1,y2,y3⟩) (first
       |((with_reducible refine(CC.out _).mono ?_);rintro x w3 ⟨rfl,b3⟩;have k1:=(b3.cell (qB x1)).trans x1;have k2:=(b3.cell (qB x2)).trans x2;have k3:=(b3.cell (qB x3)).trans x3;have k4:=(b3.cell (qB y1)).trans y1;have k5:=(b3.cell (qB y2)).trans y2;have k6:=(b3.cell (qB y3)).trans y3;have B3:=hid b3;clear b3))
      have L3:=hid (HLL.out.drew.below B3.out HLL.out.lt);have K3:Hid (Kept (One b) W w3):=hid ((HKK.out.drew).trans (Kept.of_below B3.out) (fun _ g=>g.elim));clear x1 x2 x3 y1 y2 y3 k1 k2 k3 k4 k5 k6 B3;have C3:=hid (show ¬(e m).1<(e h).1 by rw[HU.out.1,HU.out.2.2.1];exact c3);clear c3;go_wp2_with fail;go_roundw
      case rel=>exact⟨h+1,j,by go_num,rfl,by omega,by omega,q3,hid ⟨.inr (by rw[Nat.add_sub_cancel];exact C3.out),HI.out.2⟩,L3.out,K3.out⟩
      case measure=>simp[intOf];omega
  · obtain rfl:i=j:=by omega
    have HL:=hid hl;have HK:=hid hk;clear hl hk;go_wp2_with fail
    go_loopw [17] (fun v ws=> ∃ (k:Nat),v=.int .i64 k∧i≤k∧k≤m∧Lfs ws b n (mvd e k m)∧Kept (One b) W ws) (fun v _=>(intOf v).toNat)
    case atStart=>exact⟨m,rfl,q3,qR,HL.out.congr (fun t _=>(z4S e m t).symm),HK.out⟩
    case round=>
     obtain⟨k,rfl,r1,r2,hl,hk⟩:=hrel;have HL2:=hid hl;have HK2:=hid hk;clear hl hk;by_cases c2:i<k
     · obtain⟨y,hy⟩:∃y,k - 1=y:=⟨_,rfl⟩
       have w2:IntKind.i64.wrap ((k:Int) - 1)=(y:Int):=by rw[IntWalk.i64_in _ (by omega)];omega
       have w3:(k:Int) - 1=(y:Int):=by omega
       have w4:IntKind.i64.wrap (y:Int)=(y:Int):=IntWalk.i64_in _ (by omega);have hyk:y<k:=by omega
       have hyz:i≤y:=by omega
       obtain⟨x1,x2,x3⟩:=HL2.out.cells (show k<n by omega);obtain⟨y1,y2,y3⟩:=HL2.out.cells (show y<n by omega);have fx:=HL2.out.frozen (k*3);have fx1:=HL2.out.frozen (k*3+1);have fx2:=HL2.out.frozen (k*3+2);have fy:=HL2.out.frozen (y*3);have fy1:=HL2.out.frozen (y*3+1);have fy2:=HL2.out.frozen (y*3+2);have hs:=(HL2.out.swap (i:=k) (j:=y)).congr (e':=mvd e y m) (fun t _=>(z5A (by omega) t).trans (by rw[←hy];exact z2G e (by omega) r2 t));obtain⟨u1,hu1⟩:∃x0,(mvd e k m k).1=x0:=⟨_,rfl⟩
       obtain⟨u2,hu2⟩:∃x0,(mvd e k m k).2=x0:=⟨_,rfl⟩
       obtain⟨v1,hw1⟩:∃x0,(mvd e k m y).1=x0:=⟨_,rfl⟩
       obtain⟨v2,hw2⟩:∃x0,(mvd e k m y).2=x0:=⟨_,rfl⟩
       rw[hu1] at x1 hs;rw[hu2] at x2 hs;rw[hw1] at y1 hs;rw[hw2] at y2 hs;have HS:=hid hs;have hpn:k<n:=by omega
       have hqn:y<n:=by omega
       clear hs hu1 hu2 hw1 hw2;have HY:=hid hy;clear hy;go_wp2_with fail
       go_region
       go_wp2_with fail;go_roundw
       case rel=>exact⟨y,rfl,hyz,by omega,HS.out.drew,(zdP HK2.out _ _ _ _ _ _ _ _ _ _ _ _).drew⟩
       case measure=>simp[intOf];omega
     · obtain rfl:k=i:=by omega
       have HO:Hid (Ord (mvd e k m) a d∧z0O e (mvd e k m) a d):=hid (by
        have hm:=HM.out;refine⟨?_,z2H e q1 r2 (by omega)⟩;rw[hm];refine z4T OL.out HR.out q1 q3 (fun t g1 g2=> ?_) (by have:=HI.out.1;omega);rcases HI.out.2 with g|g
        · omega
        · rcases OL.out.le q1 g1 g2 with r|r
          · rw[←r];exact g
          · unfold lx at r;omega)
       go_wp2_with fail;refine bodyPost_ret (results_none rfl _ _ _) rfl ?_
       exact⟨rfl,_,HL2.out,HO.out.1,HO.out.2,HK2.out⟩
theorem zfH(b n c a m d:Nat)(e:Nat→Nat×Nat)(W:World)(hn:n≤400)(ham:a<m)(hmd:m<d)(hd:d≤n)(ol:Ord e a m)(or:Ord e m d)(hr:Rel e a m d)(H:Lfs W b n e)(h1:m≠a+1)(h2:d≠m+1)(mid:Nat)(hmid:(a+d) /2=mid)(hc:mid<m)
 (IH:∀ (a' m' d':Nat) (e':Nat→Nat×Nat) (W':World),d' - a'<d - a→a'<m'→m'<d'→d'≤n→Ord e' a' m'→Ord e' m' d'→Rel e' a' m' d'→Lfs W' b n e'→Calls Tryz.prog 188 #[.slice (some ⟨b,0,none⟩) n c,.int .i64 a',.int .i64 m',.int .i64 d',.func (.func 163) #[] #[]] W' fun x w'=>x=.returned (.tuple #[])∧∃e2,Lfs w' b n e2∧Ord e2 a' d'∧z0O e' e2 a' d'∧Kept (One b) W' w'):
 Calls Tryz.prog 188 #[.slice (some ⟨b,0,none⟩) n c,.int .i64 a,.int .i64 m,.int .i64 d,.func (.func 163) #[] #[]] W fun x w'=>x=.returned (.tuple #[])∧∃e',Lfs w' b n e'∧Ord e' a d∧z0O e e' a d∧Kept (One b) W w':=by
 have d1:((m:Int) - (a:Int)==1)=false:=by rw[qN];omega
 have d2:((d:Int) - (m:Int)==1)=false:=by rw[qN];omega
 obtain⟨s,hs⟩:∃s,a+d=s:=⟨_,rfl⟩
 rw[hs] at hmid;obtain⟨e1,e2⟩:=z2j a d s mid hs hmid (by omega);obtain⟨nn,hnn⟩:∃s,mid+m=s:=⟨_,rfl⟩
 have e3:(mid:Int)+(m:Int)=(nn:Int):=by omega
 obtain⟨p,hp⟩:∃s,nn - 1=s:=⟨_,rfl⟩
 have e4:(nn:Int) - 1=(p:Int):=by omega
 obtain⟨s0,hs0⟩:∃s,nn - d=s:=⟨_,rfl⟩
 have e5:(nn:Int) - (d:Int)=(s0:Int):=by omega
 have HW:=hid H;have OL:=hid ol;have OR:=hid or;have HR:=hid hr;have HN:=hid hn;have HI0:=hid IH;have b0:s≤1000:=by omega
 have b1:nn≤1000:=by omega
 have b2:p<nn:=by omega
 have b3:a≤mid:=by omega
 have b4:mid<d:=by omega
 have b5:nn≤d+mid:=by omega
 have b6:a≤s0:=by omega
 have b7:s0≤mid:=by omega
 have HS0:=hid hs0;clear hs0;have HMID:=hid hmid;have HSS:=hid hs;have HNN:=hid hnn;have HP:=hid hp;clear H ol or hr h1 h2 IH hmid hs hnn hp;go_enter Tryz.func188,Tryz.ntmps188;go_wp2_with fail
 go_loopw [20,21] (fun x y wr=> ∃ (i j:Nat),x=.int .i64 i∧y=.int .i64 j∧s0≤i∧i≤j∧j≤mid∧Hid ((i=s0∨¬(e (p - (i - 1))).1<(e (i - 1)).1)∧(j=mid∨(e (p - j)).1<(e j).1))∧Lfs wr b n e∧Kept (One b) W wr) (fun x y _=>(intOf y).toNat - (intOf x).toNat)
 case atStart=>exact⟨s0,mid,rfl,rfl,qR,by omega,qR,hid ⟨.inl rfl,.inl rfl⟩,HW.out,Kept.refl _ _⟩
 case round=>
  obtain⟨i,j,rfl,rfl,q1,q2,q3,HI,hl,hk⟩:=hrel;by_cases c1:i<j
  · obtain⟨z,hz⟩:∃s,i+j=s:=⟨_,rfl⟩
    obtain⟨h,hh⟩:∃h,z/2=h:=⟨_,rfl⟩
    obtain⟨e6,e7⟩:=z2j i j z h hz hh (by omega);obtain⟨u,hu⟩:∃u,p - h=u:=⟨_,rfl⟩
    have hnn:=HNN.out;have hp:=HP.out;have g1:i≤h:=by omega
    have g2:h<j:=by omega
    have e8:IntKind.i64.wrap ((p:Int) - (h:Int))=(u:Int):=by rw[IntWalk.i64_in _ (by omega)];omega
    have e9:(p:Int) - (h:Int)=(u:Int):=by omega
    have e10:IntKind.i64.wrap (h:Int)=(h:Int):=IntWalk.i64_in _ (by omega);have e11:IntKind.i64.wrap (u:Int)=(u:Int):=IntWalk.i64_in _ (by omega);have e12:((h:Int)).toNat=h:=by omega
    have e13:((u:Int)).toNat=u:=by omega
    have b8:z≤1000:=by omega
    have hun:u<n:=by have:=HS0.out;omega
    have hhn:h<n:=by omega
    have HU':=hid hu;clear hz hh hnn hp hu;obtain⟨x1,x2,x3⟩:=(hl).cells (show u<n by omega);obtain⟨y1,y2,y3⟩:=(hl).cells (show h<n by omega);obtain⟨u1,hu1⟩:∃x0,(e u).1=x0:=⟨_,rfl⟩
    obtain⟨u2,hu2⟩:∃x0,(e u).2=x0:=⟨_,rfl⟩
    obtain⟨v1,hw1⟩:∃x0,(e h).1=x0:=⟨_,rfl⟩
    obtain⟨v2,hw2⟩:∃x0,(e h).2=x0:=⟨_,rfl⟩
    rw[hu1] at x1;rw[hu2] at x2;rw[hw1] at y1;rw[hw2] at y2;have HU:=hid (And.intro hu1 (And.intro hu2 (And.intro hw1 hw2)));have HLL:=hid hl;have HKK:=hid hk;obtain⟨t,ht⟩:∃t,cmv u1 v1=t:=⟨_,rfl⟩
    have cc:=fun w=>less_any u1 u2 v1 v2 w
    rw[ht] at cc;have CC:=hid cc;have hpn:u<n:=by omega
    have hqn:h<n:=by omega
    clear cc hu1 hu2 hw1 hw2 hl hk;by_cases c3:u1<v1
    · have hd3:=z3o c3
      rw[ht] at hd3;clear ht;go_wp2_with fail
      go_region_held3 (fun w'=>w'.cell? ⟨b,u*3,none⟩=some (.int .u64 u1)∧w'.cell? ⟨b,u*3+1,none⟩=some (.int .i64 u2)∧w'.cell? ⟨b,u*3+2,none⟩=some (.pointer none)∧w'.cell? ⟨b,h*3,none⟩=some (.int .u64 v1)∧w'.cell? ⟨b,h*3+1,none⟩=some (.int .i64 v2)∧w'.cell? ⟨b,h*3+2,none⟩=some (.pointer none)) (first|exact⟨k1,k2,k3,k4,k5,k6⟩|exact⟨x1,x2,x3,y1,y2,y3⟩) (first
       |((with_reducible refine(CC.out _).mono ?_);rintro x w3 ⟨rfl,b3⟩;have k1:=(b3.cell (qB x1)).trans x1;have k2:=(b3.cell (qB x2)).trans x2;have k3:=(b3.cell (qB x3)).trans x3;have k4:=(b3.cell (qB y1)).trans y1;have k5:=(b3.cell (qB y2)).trans y2;have k6:=(b3.cell (qB y3)).trans y3;have B3:=hid b3;clear b3))
      have L3:=hid (HLL.out.drew.below B3.out HLL.out.lt);have K3:Hid (Kept (One b) W w3):=hid ((HKK.out.drew).trans (Kept.of_below B3.out) (fun _ g=>g.elim));clear x1 x2 x3 y1 y2 y3 k1 k2 k3 k4 k5 k6 B3;have C3:=hid (show(e u).1<(e h).1 by rw[HU.out.1,HU.out.2.2.1];exact c3);clear c3;go_wp2_with fail;go_roundw
      case rel=>exact⟨i,h,rfl,rfl,by omega,by omega,by omega,hid ⟨HI.out.1,.inr (by rw[HU'.out];exact C3.out)⟩,L3.out,K3.out⟩
      case measure=>simp[intOf];omega
    · have hd3:=z3n c3
      rw[ht] at hd3;clear ht;go_wp2_with fail
      go_region_held3 (fun w'=>w'.cell? ⟨b,u*3,none⟩=some (.int .u64 u1)∧w'.cell? ⟨b,u*3+1,none⟩=some (.int .i64 u2)∧w'.cell? ⟨b,u*3+2,none⟩=some (.pointer none)∧w'.cell? ⟨b,h*3,none⟩=some (.int .u64 v1)∧w'.cell? ⟨b,h*3+1,none⟩=some (.int .i64 v2)∧w'.cell? ⟨b,h*3+2,none⟩=some (.pointer none)) (first|exact⟨k1,k2,k3,k4,k5,k6⟩|exact⟨x1,x2,x3,y1,y2,y3⟩) (first
       |((with_reducible refine(CC.out _).mono ?_);rintro x w3 ⟨rfl,b3⟩;have k1:=(b3.cell (qB x1)).trans x1;have k2:=(b3.cell (qB x2)).trans x2;have k3:=(b3.cell (qB x3)).trans x3;have k4:=(b3.cell (qB y1)).trans y1;have k5:=(b3.cell (qB y2)).trans y2;have k6:=(b3.cell (qB y3)).trans y3;have B3:=hid b3;clear b3))
      have L3:=hid (HLL.out.drew.below B3.out HLL.out.lt);have K3:Hid (Kept (One b) W w3):=hid ((HKK.out.drew).trans (Kept.of_below B3.out) (fun _ g=>g.elim));clear x1 x2 x3 y1 y2 y3 k1 k2 k3 k4 k5 k6 B3;have C3:=hid (show ¬(e u).1<(e h).1 by rw[HU.out.1,HU.out.2.2.1];exact c3);clear c3;go_wp2_with fail;go_roundw
      case rel=>exact⟨h+1,j,by go_num,rfl,by omega,by omega,q3,hid ⟨.inr (by rw[Nat.add_sub_cancel,HU'.out];exact C3.out),HI.out.2⟩,L3.out,K3.out⟩
      case measure=>simp[intOf];omega
  · obtain rfl:i=j:=by omega
    have HL:=hid hl;have HK:=hid hk;clear hl hk;obtain⟨f,hf⟩:∃f,nn - i=f:=⟨_,rfl⟩
    have hnn:=HNN.out;have hp:=HP.out;have hs0:=HS0.out;have w1:(nn:Int) - (i:Int)=(f:Int):=by omega
    have b9:i≤m:=by omega
    have b10:i≤mid:=by omega
    have b11:m≤f:=by omega
    have b12:f≤d:=by omega
    have b13:mid≤f:=by omega
    have b14:a≤i:=by omega
    have CU:=hid (zbQ (s:=i) (f:=f) (d:=mid) OL.out OR.out HR.out (by omega) b9 b11 b12 (by omega)
     (by
      rcases HI.out.1 with g|g
      · exact .inr (.inl (by omega))
      · by_cases q:i=a
        · exact .inl q
        · refine .inr (.inr ?_)
          rw[show p - (i - 1)=f by omega] at g;omega)
     (by
      rcases HI.out.2 with g|g
      · exact .inl (by omega)
      · refine .inr (.inr ?_)
        rw[show p - i=f - 1 by omega] at g;exact g))
    have SR:=hid (z7C e b9 b11);have HE1:=hid (show i=m∨m=f→∀t,e t=rot e i m f t from fun q t=>(z7D e b9 b11 q t).symm);clear hf hnn hp hs0;obtain⟨E1,hE1⟩:∃E1,rot e i m f=E1:=⟨_,rfl⟩
    have CU1:=hid (show Ord E1 a i∧Ord E1 i mid∧Rel E1 a i mid by rw[←hE1];exact CU.out.1);have CU2:=hid (show Ord E1 mid f∧Ord E1 f d∧Rel E1 mid f d by rw[←hE1];exact CU.out.2.1);have CX:=hid (show ∀x y,a≤x→x<mid→mid≤y→y<d→lx (E1 x) (E1 y) by rw[←hE1];exact CU.out.2.2);rw[hE1] at SR HE1;rcases(show(i<m∧m<f)∨(i<m∧¬m<f)∨¬i<m by omega) with⟨g1,g2⟩|⟨g1,g2⟩|g1
    all_goals
     try (have L4:=hid (HL.out.congr (fun t _=>HE1.out (by omega) t));have K4:=hid HK.out)
     rcases(show(a<i∧i<mid)∨(a<i∧¬i<mid)∨¬a<i by omega) with⟨g3,g4⟩|⟨g3,g4⟩|g3
     all_goals
      try (have q:i=a∨i=mid:=by omega
           have O2:Hid (Ord E1 a mid):=hid (by
            rcases q with q|q
            · have:=CU1.out.2.1;rw[q] at this;exact this
            · have:=CU1.out.1;rw[q] at this;exact this)
           have S2:=hid (z0O.refl E1 a mid);have G2:=hid CU2.out;clear q)
      rcases(show(mid<f∧f<d)∨(mid<f∧¬f<d)∨¬mid<f by omega) with⟨g5,g6⟩|⟨g5,g6⟩|g5
      all_goals
       go_wp2_with (first
        |(go_at_call 189;(with_reducible refine(zae b n c i m f _ e _ HN.out g1 g2 (by omega) HL.out).mono ?_);rintro x w4 ⟨rfl,l4,k4⟩;rw[hE1] at l4;have L4:=hid l4;have K4:=hid (HK.out.trans k4 (fun _ h=> .inl h));clear l4 k4)
        |(go_at_call 188;(with_reducible refine(HI0.out a i mid _ _ (by omega) g3 g4 (by omega) CU1.out.1 CU1.out.2.1 CU1.out.2.2 L4.out).mono ?_);rintro x w5 ⟨rfl,e5,l5,o5,s5,k5⟩;have L5:=hid l5;have K5:=hid (K4.out.trans k5 (fun _ h=> .inl h));have S2:=hid s5;have O2:=hid o5
          have G2:=hid (show Ord e5 mid f∧Ord e5 f d∧Rel e5 mid f d from⟨CU2.out.1.congr (fun t q r=>s5.out t (by omega)),CU2.out.2.1.congr (fun t q r=>s5.out t (by omega)),fun x y r1 r2 r3 r4=>by rw[s5.out x (by omega),s5.out y (by omega)];exact CU2.out.2.2 x y r1 r2 r3 r4⟩);clear l5 o5 s5 k5)
        |(go_at_call 188;(first|with_reducible refine(HI0.out mid f d _ _ (by omega) g5 g6 hd (G2.out.1) (G2.out.2.1) (G2.out.2.2) L5.out).mono ?_|with_reducible refine(HI0.out mid f d _ _ (by omega) g5 g6 hd (G2.out.1) (G2.out.2.1) (G2.out.2.2) L4.out).mono ?_);rintro x w6 ⟨rfl,e6,l6,o6,s6,k6⟩;have L6:=hid l6
          have K6:=(by first|exact hid (K5.out.trans k6 (fun _ h=> .inl h))|exact hid (K4.out.trans k6 (fun _ h=> .inl h)):Hid (Kept (One b) W w6));have F6:=hid (show Ord e6 a d∧z0O e e6 a d from⟨z2N CX.out S2.out s6 O2.out o6,((SR.out.wide b14 b12).trans (S2.out.wide qR (by omega))).trans (s6.wide (by omega) qR)⟩);clear l6 o6 s6 k6))
       go_end0
       first
        |exact⟨rfl,_,L6.out,F6.out.1,F6.out.2,K6.out⟩
        |(have O6:=(by
         have q:f=d∨f=mid:=by omega
         rcases q with q|q
         · have:=G2.out.1;rw[q] at this;exact this
         · have:=G2.out.2.1;rw[q] at this;exact this:Ord _ mid d)
          have o6:=z2N CX.out S2.out (z0O.refl _ mid d) O2.out O6;have s6:=(SR.out.wide b14 b12).trans (S2.out.wide qR (by omega))
          first|exact⟨rfl,_,L5.out,o6,s6,K5.out⟩|exact⟨rfl,_,L4.out,o6,s6,K4.out⟩)
theorem zfG(b n c a m d:Nat)(e:Nat→Nat×Nat)(W:World)(hn:n≤400)(ham:a<m)(hmd:m<d)(hd:d≤n)(ol:Ord e a m)(or:Ord e m d)(hr:Rel e a m d)(H:Lfs W b n e)(h1:m≠a+1)(h2:d≠m+1)(mid:Nat)(hmid:(a+d) /2=mid)(hc:m≤mid)
 (IH:∀ (a' m' d':Nat) (e':Nat→Nat×Nat) (W':World),d' - a'<d - a→a'<m'→m'<d'→d'≤n→Ord e' a' m'→Ord e' m' d'→Rel e' a' m' d'→Lfs W' b n e'→Calls Tryz.prog 188 #[.slice (some ⟨b,0,none⟩) n c,.int .i64 a',.int .i64 m',.int .i64 d',.func (.func 163) #[] #[]] W' fun x w'=>x=.returned (.tuple #[])∧∃e2,Lfs w' b n e2∧Ord e2 a' d'∧z0O e' e2 a' d'∧Kept (One b) W' w'):
 Calls Tryz.prog 188 #[.slice (some ⟨b,0,none⟩) n c,.int .i64 a,.int .i64 m,.int .i64 d,.func (.func 163) #[] #[]] W fun x w'=>x=.returned (.tuple #[])∧∃e',Lfs w' b n e'∧Ord e' a d∧z0O e e' a d∧Kept (One b) W w':=by
 have d1:((m:Int) - (a:Int)==1)=false:=by rw[qN];omega
 have d2:((d:Int) - (m:Int)==1)=false:=by rw[qN];omega
 obtain⟨s,hs⟩:∃s,a+d=s:=⟨_,rfl⟩
 rw[hs] at hmid;obtain⟨e1,e2⟩:=z2j a d s mid hs hmid (by omega);obtain⟨nn,hnn⟩:∃s,mid+m=s:=⟨_,rfl⟩
 have e3:(mid:Int)+(m:Int)=(nn:Int):=by omega
 obtain⟨p,hp⟩:∃s,nn - 1=s:=⟨_,rfl⟩
 have e4:(nn:Int) - 1=(p:Int):=by omega
 have dq:decide (mid<m)=false:=qF (by omega);have HW:=hid H;have OL:=hid ol;have OR:=hid or;have HR:=hid hr;have HN:=hid hn;have HI0:=hid IH;have b0:s≤1000:=by omega
 have b1:nn≤1000:=by omega
 have b2:p<nn:=by omega
 have b3:a≤mid:=by omega
 have b4:mid<d:=by omega
 have b5:nn≤d+mid:=by omega
 have HMID:=hid hmid;have HSS:=hid hs;have HNN:=hid hnn;have HP:=hid hp;clear H ol or hr h1 h2 IH hmid hs hnn hp;go_enter Tryz.func188,Tryz.ntmps188;go_wp2_with fail
 go_loopw [20,21] (fun x y wr=> ∃ (i j:Nat),x=.int .i64 i∧y=.int .i64 j∧a≤i∧i≤j∧j≤m∧Hid ((i=a∨¬(e (p - (i - 1))).1<(e (i - 1)).1)∧(j=m∨(e (p - j)).1<(e j).1))∧Lfs wr b n e∧Kept (One b) W wr) (fun x y _=>(intOf y).toNat - (intOf x).toNat)
 case atStart=>exact⟨a,m,rfl,rfl,qR,by omega,qR,hid ⟨.inl rfl,.inl rfl⟩,HW.out,Kept.refl _ _⟩
 case round=>
  obtain⟨i,j,rfl,rfl,q1,q2,q3,HI,hl,hk⟩:=hrel;by_cases c1:i<j
  · obtain⟨z,hz⟩:∃s,i+j=s:=⟨_,rfl⟩
    obtain⟨h,hh⟩:∃h,z/2=h:=⟨_,rfl⟩
    obtain⟨e6,e7⟩:=z2j i j z h hz hh (by omega);obtain⟨u,hu⟩:∃u,p - h=u:=⟨_,rfl⟩
    have hnn:=HNN.out;have hp:=HP.out;have g1:i≤h:=by omega
    have g2:h<j:=by omega
    have e8:IntKind.i64.wrap ((p:Int) - (h:Int))=(u:Int):=by rw[IntWalk.i64_in _ (by omega)];omega
    have e9:(p:Int) - (h:Int)=(u:Int):=by omega
    have e10:IntKind.i64.wrap (h:Int)=(h:Int):=IntWalk.i64_in _ (by omega);have e11:IntKind.i64.wrap (u:Int)=(u:Int):=IntWalk.i64_in _ (by omega);have e12:((h:Int)).toNat=h:=by omega
    have e13:((u:Int)).toNat=u:=by omega
    have b8:z≤1000:=by omega
    have hun:u<n:=by omega
    have hhn:h<n:=by omega
    have HU':=hid hu;clear hz hh hnn hp hu;obtain⟨x1,x2,x3⟩:=(hl).cells (show u<n by omega);obtain⟨y1,y2,y3⟩:=(hl).cells (show h<n by omega);obtain⟨u1,hu1⟩:∃x0,(e u).1=x0:=⟨_,rfl⟩
    obtain⟨u2,hu2⟩:∃x0,(e u).2=x0:=⟨_,rfl⟩
    obtain⟨v1,hw1⟩:∃x0,(e h).1=x0:=⟨_,rfl⟩
    obtain⟨v2,hw2⟩:∃x0,(e h).2=x0:=⟨_,rfl⟩
    rw[hu1] at x1;rw[hu2] at x2;rw[hw1] at y1;rw[hw2] at y2;have HU:=hid (And.intro hu1 (And.intro hu2 (And.intro hw1 hw2)));have HLL:=hid hl;have HKK:=hid hk;obtain⟨t,ht⟩:∃t,cmv u1 v1=t:=⟨_,rfl⟩
    have cc:=fun w=>less_any u1 u2 v1 v2 w
    rw[ht] at cc;have CC:=hid cc;have hpn:u<n:=by omega
    have hqn:h<n:=by omega
    clear cc hu1 hu2 hw1 hw2 hl hk;by_cases c3:u1<v1
    · have hd3:=z3o c3
      rw[ht] at hd3;clear ht;go_wp2_with fail
      go_region_held3 (fun w'=>w'.cell? ⟨b,u*3,none⟩=some (.int .u64 u1)∧w'.cell? ⟨b,u*3+1,none⟩=some (.int .i64 u2)∧w'.cell? ⟨b,u*3+2,none⟩=some (.pointer none)∧w'.cell? ⟨b,h*3,none⟩=some (.int .u64 v1)∧w'.cell? ⟨b,h*3+1,none⟩=some (.int .i64 v2)∧w'.cell? ⟨b,h*3+2,none⟩=some (.pointer none)) (first|exact⟨k1,k2,k3,k4,k5,k6⟩|exact⟨x1,x2,x3,y1,y2,y3⟩) (first
       |((with_reducible refine(CC.out _).mono ?_);rintro x w3 ⟨rfl,b3⟩;have k1:=(b3.cell (qB x1)).trans x1;have k2:=(b3.cell (qB x2)).trans x2;have k3:=(b3.cell (qB x3)).trans x3;have k4:=(b3.cell (qB y1)).trans y1;have k5:=(b3.cell (qB y2)).trans y2;have k6:=(b3.cell (qB y3)).trans y3;have B3:=hid b3;clear b3))
      have L3:=hid (HLL.out.drew.below B3.out HLL.out.lt);have K3:Hid (Kept (One b) W w3):=hid ((HKK.out.drew).trans (Kept.of_below B3.out) (fun _ g=>g.elim));clear x1 x2 x3 y1 y2 y3 k1 k2 k3 k4 k5 k6 B3;have C3:=hid (show(e u).1<(e h).1 by rw[HU.out.1,HU.out.2.2.1];exact c3);clear c3;go_wp2_with fail;go_roundw
      case rel=>exact⟨i,h,rfl,rfl,by omega,by omega,by omega,hid ⟨HI.out.1,.inr (by rw[HU'.out];exact C3.out)⟩,L3.out,K3.out⟩
      case measure=>simp[intOf];omega
    · have hd3:=z3n c3
      rw[ht] at hd3;clear ht;go_wp2_with fail
      go_region_held3 (fun w'=>w'.cell? ⟨b,u*3,none⟩=some (.int .u64 u1)∧w'.cell? ⟨b,u*3+1,none⟩=some (.int .i64 u2)∧w'.cell? ⟨b,u*3+2,none⟩=some (.pointer none)∧w'.cell? ⟨b,h*3,none⟩=some (.int .u64 v1)∧w'.cell? ⟨b,h*3+1,none⟩=some (.int .i64 v2)∧w'.cell? ⟨b,h*3+2,none⟩=some (.pointer none)) (first|exact⟨k1,k2,k3,k4,k5,k6⟩|exact⟨x1,x2,x3,y1,y2,y3⟩) (first
       |((with_reducible refine(CC.out _).mono ?_);rintro x w3 ⟨rfl,b3⟩;have k1:=(b3.cell (qB x1)).trans x1;have k2:=(b3.cell (qB x2)).trans x2;have k3:=(b3.cell (qB x3)).trans x3;have k4:=(b3.cell (qB y1)).trans y1;have k5:=(b3.cell (qB y2)).trans y2;have k6:=(b3.cell (qB y3)).trans y3;have B3:=hid b3;clear b3))
      have L3:=hid (HLL.out.drew.below B3.out HLL.out.lt);have K3:Hid (Kept (One b) W w3):=hid ((HKK.out.drew).trans (Kept.of_below B3.out) (fun _ g=>g.elim));clear x1 x2 x3 y1 y2 y3 k1 k2 k3 k4 k5 k6 B3;have C3:=hid (show ¬(e u).1<(e h).1 by rw[HU.out.1,HU.out.2.2.1];exact c3);clear c3;go_wp2_with fail;go_roundw
      case rel=>exact⟨h+1,j,by go_num,rfl,by omega,by omega,q3,hid ⟨.inr (by rw[Nat.add_sub_cancel,HU'.out];exact C3.out),HI.out.2⟩,L3.out,K3.out⟩
      case measure=>simp[intOf];omega
  · obtain rfl:i=j:=by omega
    have HL:=hid hl;have HK:=hid hk;clear hl hk;obtain⟨f,hf⟩:∃f,nn - i=f:=⟨_,rfl⟩
    have hnn:=HNN.out;have hp:=HP.out;have w1:(nn:Int) - (i:Int)=(f:Int):=by omega
    have b9:i≤m:=by omega
    have b10:i≤mid:=by omega
    have b11:m≤f:=by omega
    have b12:f≤d:=by omega
    have b13:mid≤f:=by omega
    have b14:a≤i:=by omega
    have CU:=hid (zbQ (s:=i) (f:=f) (d:=mid) OL.out OR.out HR.out (by omega) b9 b11 b12 (by omega)
     (by
      rcases HI.out.1 with g|g
      · exact .inl g
      · by_cases q:i=a
        · exact .inl q
        · refine .inr (.inr ?_)
          rw[show p - (i - 1)=f by omega] at g;omega)
     (by
      rcases HI.out.2 with g|g
      · exact .inr (.inl g)
      · refine .inr (.inr ?_)
        rw[show p - i=f - 1 by omega] at g;exact g))
    have SR:=hid (z7C e b9 b11);have HE1:=hid (show i=m∨m=f→∀t,e t=rot e i m f t from fun q t=>(z7D e b9 b11 q t).symm);clear hf hnn hp;obtain⟨E1,hE1⟩:∃E1,rot e i m f=E1:=⟨_,rfl⟩
    have CU1:=hid (show Ord E1 a i∧Ord E1 i mid∧Rel E1 a i mid by rw[←hE1];exact CU.out.1);have CU2:=hid (show Ord E1 mid f∧Ord E1 f d∧Rel E1 mid f d by rw[←hE1];exact CU.out.2.1);have CX:=hid (show ∀x y,a≤x→x<mid→mid≤y→y<d→lx (E1 x) (E1 y) by rw[←hE1];exact CU.out.2.2);rw[hE1] at SR HE1;rcases(show(i<m∧m<f)∨(i<m∧¬m<f)∨¬i<m by omega) with⟨g1,g2⟩|⟨g1,g2⟩|g1
    all_goals
     try (have L4:=hid (HL.out.congr (fun t _=>HE1.out (by omega) t));have K4:=hid HK.out)
     rcases(show(a<i∧i<mid)∨(a<i∧¬i<mid)∨¬a<i by omega) with⟨g3,g4⟩|⟨g3,g4⟩|g3
     all_goals
      try (have q:i=a∨i=mid:=by omega
           have O2:Hid (Ord E1 a mid):=hid (by
            rcases q with q|q
            · have:=CU1.out.2.1;rw[q] at this;exact this
            · have:=CU1.out.1;rw[q] at this;exact this)
           have S2:=hid (z0O.refl E1 a mid);have G2:=hid CU2.out;clear q)
      rcases(show(mid<f∧f<d)∨(mid<f∧¬f<d)∨¬mid<f by omega) with⟨g5,g6⟩|⟨g5,g6⟩|g5
      all_goals
       go_wp2_with (first
        |(go_at_call 189;(with_reducible refine(zae b n c i m f _ e _ HN.out g1 g2 (by omega) HL.out).mono ?_);rintro x w4 ⟨rfl,l4,k4⟩;rw[hE1] at l4;have L4:=hid l4;have K4:=hid (HK.out.trans k4 (fun _ h=> .inl h));clear l4 k4)
        |(go_at_call 188;(with_reducible refine(HI0.out a i mid _ _ (by omega) g3 g4 (by omega) CU1.out.1 CU1.out.2.1 CU1.out.2.2 L4.out).mono ?_);rintro x w5 ⟨rfl,e5,l5,o5,s5,k5⟩;have L5:=hid l5;have K5:=hid (K4.out.trans k5 (fun _ h=> .inl h));have S2:=hid s5;have O2:=hid o5
          have G2:=hid (show Ord e5 mid f∧Ord e5 f d∧Rel e5 mid f d from⟨CU2.out.1.congr (fun t q r=>s5.out t (by omega)),CU2.out.2.1.congr (fun t q r=>s5.out t (by omega)),fun x y r1 r2 r3 r4=>by rw[s5.out x (by omega),s5.out y (by omega)];exact CU2.out.2.2 x y r1 r2 r3 r4⟩);clear l5 o5 s5 k5)
        |(go_at_call 188;(first|with_reducible refine(HI0.out mid f d _ _ (by omega) g5 g6 hd (G2.out.1) (G2.out.2.1) (G2.out.2.2) L5.out).mono ?_|with_reducible refine(HI0.out mid f d _ _ (by omega) g5 g6 hd (G2.out.1) (G2.out.2.1) (G2.out.2.2) L4.out).mono ?_);rintro x w6 ⟨rfl,e6,l6,o6,s6,k6⟩;have L6:=hid l6
          have K6:=(by first|exact hid (K5.out.trans k6 (fun _ h=> .inl h))|exact hid (K4.out.trans k6 (fun _ h=> .inl h)):Hid (Kept (One b) W w6));have F6:=hid (show Ord e6 a d∧z0O e e6 a d from⟨z2N CX.out S2.out s6 O2.out o6,((SR.out.wide b14 b12).trans (S2.out.wide qR (by omega))).trans (s6.wide (by omega) qR)⟩);clear l6 o6 s6 k6))
       go_end0
       first
        |exact⟨rfl,_,L6.out,F6.out.1,F6.out.2,K6.out⟩
        |(have O6:=(by
         have q:f=d∨f=mid:=by omega
         rcases q with q|q
         · have:=G2.out.1;rw[q] at this;exact this
         · have:=G2.out.2.1;rw[q] at this;exact this:Ord _ mid d)
          have o6:=z2N CX.out S2.out (z0O.refl _ mid d) O2.out O6;have s6:=(SR.out.wide b14 b12).trans (S2.out.wide qR (by omega))
          first|exact⟨rfl,_,L5.out,o6,s6,K5.out⟩|exact⟨rfl,_,L4.out,o6,s6,K4.out⟩)
theorem z9Y:∀ (k b n c a m d:Nat) (e:Nat→Nat×Nat) (W:World),d - a≤k→n≤400→a<m→m<d→d≤n→Ord e a m→Ord e m d→Rel e a m d→Lfs W b n e→
 Calls Tryz.prog 188 #[.slice (some ⟨b,0,none⟩) n c,.int .i64 a,.int .i64 m,.int .i64 d,.func (.func 163) #[] #[]] W fun x w'=>x=.returned (.tuple #[])∧∃e',Lfs w' b n e'∧Ord e' a d∧z0O e e' a d∧Kept (One b) W w'
 |0,b,n,c,a,m,d,e,W,hk,hn,h1,h2,h3,ol,or,hr,H=>absurd hk (by omega)
 |k+1,b,n,c,a,m,d,e,W,hk,hn,h1,h2,h3,ol,or,hr,H=>by
  have IH:=fun(a' m' d':Nat) (e':Nat→Nat×Nat) (W':World) (q:d' - a'<d - a)=>z9Y k b n c a' m' d' e' W' (by omega) hn
  by_cases c1:m=a+1
  · exact zfF b n c a m d e W hn h1 h2 h3 ol or hr H c1
  by_cases c2:d=m+1
  · exact zfE b n c a m d e W hn h1 h2 h3 ol or hr H c1 c2
  by_cases c3:(a+d) /2<m
  · exact zfH b n c a m d e W hn h1 h2 h3 ol or hr H c1 c2 _ rfl c3 IH
  · exact zfG b n c a m d e W hn h1 h2 h3 ol or hr H c1 c2 _ rfl (by omega) IH
theorem z9X(b n c a m d:Nat)(e:Nat→Nat×Nat)(W:World)(hn:n≤400)(h1:a<m)(h2:m<d)(h3:d≤n)(ol:Ord e a m)(or:Ord e m d)(hr:Rel e a m d)(H:Lfs W b n e):
 Calls Tryz.prog 188 #[.slice (some ⟨b,0,none⟩) n c,.int .i64 a,.int .i64 m,.int .i64 d,.func (.func 163) #[] #[]] W fun x w'=>x=.returned (.tuple #[])∧∃e',Lfs w' b n e'∧Ord e' a d∧z0O e e' a d∧Kept (One b) W w':=
 z9Y (d - a) b n c a m d e W qR hn h1 h2 h3 ol or hr H
theorem z8S(b n c:Nat)(e0:Nat→Nat×Nat)(W:World)(hn:n≤400)(hi:Inc e0 n)(H:Lfs W b n e0):
 Calls Tryz.prog 179 #[.slice (some ⟨b,0,none⟩) n c,.int .i64 n,.func (.func 163) #[] #[]] W fun x w'=>x=.returned (.tuple #[])∧∃e',Lfs w' b n e'∧Ord e' 0 n∧Mem e0 e' 0 n∧Kept (One b) W w':=by
 have HW:=hid H;have HI:=hid hi;have HN:=hid hn;clear H hi;go_enter Tryz.func179,Tryz.ntmps179;go_wp2_with fail
 go_loopw [7,8] (fun x y wr=> ∃ (a q:Nat) (e:Nat→Nat×Nat),x=.int .i64 a∧y=.int .i64 ((a:Int)+20)∧a≤n∧Lfs wr b n e∧Hid (a=q*20∧Blk e0 e 20 0 a n∧(∀t,a≤t→e t=e0 t)∧Kept (One b) W wr)) (fun x y _=>401 - (intOf x).toNat)
 case atStart=>exact⟨0,0,e0,rfl,by simp,qZ,HW.out,hid ⟨rfl,z8p _ _ _ _ _,fun _ _=>rfl,Kept.refl _ _⟩⟩
 case round=>
  obtain⟨a,q,e,rfl,rfl,q1,hl,HB⟩:=hrel;have HL:=hid hl;clear hl;by_cases c1:a+20≤n
  · obtain⟨d,hd⟩:∃d,a+20=d:=⟨_,rfl⟩
    have e1:(a:Int)+20=(d:Int):=by omega
    have hdn:d≤n:=by omega
    have had:a≤d:=by omega
    have HD:=hid hd
    have HS:=hid (show ∀i j,a≤i→i<j→j<d→(e i).2<(e j).2 from fun i j g1 g2 g3=>by
     rw[HB.out.2.2.1 i g1,HB.out.2.2.1 j (by omega)];exact HI.out i j g2 (by omega))
    clear hd c1;go_wp2_with fail;refine(zbt b n c a d e _ HN.out had hdn HS.out HL.out).mono ?_;rintro x w1 ⟨rfl,e',l1,o1,s1,k1⟩;have L1:=hid l1;have F1:=hid (And.intro o1 (And.intro s1 k1));clear l1 o1 s1 k1;go_wp2_with fail;go_roundw
    case rel=>
     obtain⟨h1,h2,h3,h4⟩:=HB.out;obtain⟨o1,s1,k1⟩:=F1.out;have hd:=HD.out;have hmin:min (a+20) n=d:=by omega
     refine⟨d,q+1,e',rfl,rfl,hdn,L1.out,hid ⟨by rw[Nat.succ_mul];omega,?_,fun t g=>by rw[s1.out t (.inr g),h3 t (by omega)],h4.trans k1 (fun _ h=> .inl h)⟩⟩;have:=z2Q (e':=e') h2 h1 (by rw[hmin];exact o1) (fun t g=>s1.out t (.inl g)) (by rw[hmin];exact(Mem.of_eq (fun i g _=>h3 i g)).trans s1.mem)
     rwa [hd] at this
    case measure=>have hd:=HD.out;simp[intOf];omega
  · have HS:=hid (show ∀i j,a≤i→i<j→j<n→(e i).2<(e j).2 from fun i j g1 g2 g3=>by
     rw[HB.out.2.2.1 i g1,HB.out.2.2.1 j (by omega)];exact HI.out i j g2 (by omega))
    have HC:=hid (show n≤a+20 by omega);have d1:decide ((a:Int)+20≤(n:Int))=false:=qF (by omega);clear c1;go_wp2_with fail;refine(zbt b n c a n e _ HN.out q1 qR HS.out HL.out).mono ?_;rintro x w1 ⟨rfl,e',l1,o1,s1,k1⟩;have L1:=hid l1;have K1:=hid (HB.out.2.2.2.trans k1 (fun _ h=> .inl h))
    have B1:=hid (show Blk e0 e' 20 0 n n from by
     obtain⟨h1,h2,h3,h4⟩:=HB.out;have hmin:min (a+20) n=n:=Nat.min_eq_right HC.out;exact z4o (z2Q (e':=e') h2 h1 (by rw[hmin];exact o1) (fun t g=>s1.out t (.inl g)) (by rw[hmin];exact(Mem.of_eq (fun i g _=>h3 i g)).trans s1.mem)) HC.out)
    clear l1 o1 s1 k1;go_wp2_with fail
    go_loopw [6,7,8,9] (fun x y z u wr=> ∃ (bs:Nat) (e:Nat→Nat×Nat),x=.int .i64 bs∧0<bs∧bs≤800∧Lfs wr b n e∧Hid (Blk e0 e bs 0 n n∧Kept (One b) W wr)) (fun x y z u _=>401 - (intOf x).toNat)
    case atStart=>exact⟨20,e',rfl,by omega,by omega,L1.out,hid ⟨B1.out,K1.out⟩⟩
    case round=>
     obtain⟨bs,e2,rfl,r1,r2,hl,HB2⟩:=hrel;have HL2:=hid hl;clear hl;by_cases c2:bs<n
     · obtain⟨B,hB⟩:∃B,2*bs=B:=⟨_,rfl⟩
       have w1:2*(bs:Int)=(B:Int):=by omega
       have w2:(bs:Int)*2=(B:Int):=by omega
       have hBs:B≤800:=by omega
       have hbB:bs<B:=by omega
       have HBB:=hid hB;have HB3:=hid (show Blk e0 e2 B 0 0 n∧Blk e0 e2 bs 0 n n from⟨z8p _ _ _ _ _,HB2.out.1⟩);clear hB;go_wp2_with fail
       go_loopw [7,8] (fun x y ws=> ∃ (a q:Nat) (e:Nat→Nat×Nat),x=.int .i64 a∧y=.int .i64 ((a:Int)+(B:Int))∧a≤n∧Lfs ws b n e∧Hid (a=q*B∧Blk e0 e B 0 a n∧Blk e0 e bs a n n∧Kept (One b) W ws)) (fun x y _=>401 - (intOf x).toNat)
       case atStart=>exact⟨0,0,e2,rfl,by simp,qZ,HL2.out,hid ⟨by simp,HB3.out.1,HB3.out.2,HB2.out.2⟩⟩
       case round=>
        obtain⟨a,q,e3,rfl,rfl,q1,hl,HB4⟩:=hrel;have HL3:=hid hl;clear hl;by_cases c3:a+B≤n
        · obtain⟨d,hd⟩:∃d,a+B=d:=⟨_,rfl⟩
          obtain⟨m,hm⟩:∃m,a+bs=m:=⟨_,rfl⟩
          have v1:(a:Int)+(B:Int)=(d:Int):=by omega
          have v2:(a:Int)+(bs:Int)=(m:Int):=by omega
          have v3:(d:Int)+(B:Int)≤2000:=by omega
          have hdn:d≤n:=by omega
          have hmd:m<d:=by omega
          have ham:a<m:=by omega
          have hda:a+1≤d:=by omega
          have HR:=hid (show Ord e3 a m∧Ord e3 m d∧Rel e3 a m d from by
           obtain⟨h1,h2,h3,h4⟩:=HB4.out;have hB:=HBB.out;have:=zcf (d:=d) h3 (by rw[hB];exact h1) r1 (by omega) (by omega) HI.out
           rwa [hm] at this)
          have HD:=hid (And.intro hd hm);clear hd hm c3;go_wp2_with fail;refine(z9X b n c a m d e3 _ HN.out ham hmd hdn HR.out.1 HR.out.2.1 HR.out.2.2 HL3.out).mono ?_;rintro x w5 ⟨rfl,e5,l5,o5,s5,k5⟩;have L5:=hid l5;have F5:=hid (And.intro o5 (And.intro s5 k5));clear l5 o5 s5 k5;go_wp2_with fail;go_roundw
          case rel=>
           obtain⟨h1,h2,h3,h4⟩:=HB4.out;obtain⟨o5,s5,k5⟩:=F5.out;obtain⟨hd,hm⟩:=HD.out;have hB:=HBB.out;have hmin:d=min (a+2*bs) n:=by omega
           have:=z6i (by rw[hB];exact h2) h3 (by rw[hB];exact h1) r1 (by omega) hmin o5 s5;rw[hB,hd] at this;exact⟨d,q+1,e5,rfl,rfl,hdn,L5.out,hid ⟨by rw[Nat.succ_mul];omega,this.1,this.2,h4.trans k5 (fun _ h=> .inl h)⟩⟩
          case measure=>simp[intOf];omega
        · obtain⟨m,hm⟩:∃m,a+bs=m:=⟨_,rfl⟩
          have v2:(a:Int)+(bs:Int)=(m:Int):=by omega
          have d3:decide ((a:Int)+(B:Int)≤(n:Int))=false:=qF (by omega);have HC3:=hid (show n≤a+B by omega);by_cases c4:m<n
          · have ham:a<m:=by omega
            have HR:=hid (show Ord e3 a m∧Ord e3 m n∧Rel e3 a m n from by
             obtain⟨h1,h2,h3,h4⟩:=HB4.out;have hB:=HBB.out;have:=zcf (d:=n) h3 (by rw[hB];exact h1) r1 (by omega) (by omega) HI.out
             rwa [hm] at this)
            have HD:=hid hm;clear hm c3;go_wp2_with fail;refine(z9X b n c a m n e3 _ HN.out ham c4 qR HR.out.1 HR.out.2.1 HR.out.2.2 HL3.out).mono ?_;rintro x w5 ⟨rfl,e5,l5,o5,s5,k5⟩;have L5:=hid l5;have F5:=hid (And.intro o5 (And.intro s5 k5));clear l5 o5 s5 k5;go_wp2_with fail;go_roundw
            case rel=>
             obtain⟨h1,h2,h3,h4⟩:=HB4.out;obtain⟨o5,s5,k5⟩:=F5.out;have hm:=HD.out;have hB:=HBB.out;have hc3:=HC3.out;have hmin:n=min (a+2*bs) n:=by omega
             have:=z6i (by rw[hB];exact h2) h3 (by rw[hB];exact h1) r1 (by omega) hmin o5 s5;rw[hB] at this;exact⟨B,e5,rfl,by omega,hBs,L5.out,hid ⟨z4o this.1 hc3,h4.trans k5 (fun _ h=> .inl h)⟩⟩
            case measure=>simp[intOf];omega
          · have HD:=hid hm
            clear hm c3;go_wp2_with fail;go_roundw
            case rel=>
             obtain⟨h1,h2,h3,h4⟩:=HB4.out;have hm:=HD.out;have hB:=HBB.out;have:=zei (by rw[hB];exact h2) h3 (by rw[hB];exact h1) r1 (by omega) q1;rw[hB] at this;exact⟨B,e3,rfl,by omega,hBs,HL3.out,hid ⟨this,h4⟩⟩
            case measure=>simp[intOf];omega
     · have HE:=hid (zgW HB2.out.1 (by omega))
       go_wp2_with fail;go_end0;exact⟨rfl,e2,HL2.out,HE.out.1,HE.out.2,HB2.out.2⟩
theorem zcU(b n c:Nat)(e0:Nat→Nat×Nat)(W:World)(hn:n≤400)(hi:Inc e0 n)(H:Lfs W b n e0):
 Calls Tryz.prog 162 #[.slice (some ⟨b,0,none⟩) n c,.func (.func 163) #[] #[]] W fun x w'=>x=.returned (.tuple #[])∧∃e',Lfs w' b n e'∧Ord e' 0 n∧Mem e0 e' 0 n∧Kept (One b) W w':=by
 have HW:=hid H;have HI:=hid hi;clear H hi;go_enter Tryz.func162,Tryz.ntmps162;go_wp2_with fail;refine(z8S b n c e0 _ hn HI.out HW.out).mono ?_;rintro x w5 ⟨rfl,e5,l5,o5,s5,k5⟩;have F5:=hid (And.intro l5 (And.intro o5 (And.intro s5 k5)));clear l5 o5 s5 k5;go_wp2_with fail;go_end0;exact⟨rfl,e5,F5.out⟩
theorem zdU(c a:Nat)(cmpf:Value)(W:World):
 Calls Tryz.prog 187 #[.slice none 0 c,.int .i64 0,.int .i64 0,cmpf] W fun x w'=>x=.returned (.tuple #[])∧W=w':=by
 go_enter Tryz.func187,Tryz.ntmps187;go_wp2_with fail
 go_loop [8] (fun v=>v=.int .i64 1) (fun _=>0)
 case atStart=>rfl
 case round=>
  obtain rfl:=hrel;go_wp2_with fail;go_end0;exact⟨rfl,rfl⟩
theorem z6z(c:Nat)(cmpf:Value)(W:World):
 Calls Tryz.prog 179 #[.slice none 0 c,.int .i64 0,cmpf] W fun x w'=>x=.returned (.tuple #[])∧W=w':=by
 go_enter Tryz.func179,Tryz.ntmps179;go_wp2_with fail
 go_loop [7,8] (fun x y=>x=.int .i64 0∧y=.int .i64 20) (fun _ _=>0)
 case atStart=>exact⟨rfl,rfl⟩
 case round=>
  obtain⟨rfl,rfl⟩:=hrel;go_wp2_with fail;refine(zdU c 0 cmpf _).mono ?_;rintro x w1 ⟨rfl,rfl⟩;go_wp2_with fail
  go_loop [6] (fun x=>x=.int .i64 20) (fun _=>0)
  case atStart=>rfl
  case round=>
   obtain rfl:=hrel;go_wp2_with fail;go_end0;exact⟨rfl,rfl⟩
theorem za0(c:Nat)(cmpf:Value)(W:World):
 Calls Tryz.prog 162 #[.slice none 0 c,cmpf] W fun x w'=>x=.returned (.tuple #[])∧W=w':=by
 go_enter Tryz.func162,Tryz.ntmps162;go_wp2_with fail;refine(z6z c cmpf _).mono ?_;rintro x w1 ⟨rfl,rfl⟩;go_wp2_with fail;go_end0;exact⟨rfl,rfl⟩
end Go.Proofs.YtacelhaidcmbcaaGreatDoor
