import Derived.Test.YthgilhebnlglkaaGreatDoorEMSpK
import Derived.Test.YthgilhebnlglkaaGreatDoorET9TkE
set_option linter.all false
set_option maxHeartbeats 8000000
set_option maxRecDepth 1000000
open Go.Proofs.Tryz
namespace Go.Proofs.YthgilhebnlglkaaGreatDoor.V
open Go Go.RowKit M U
def zgN(L:List Tk)(q:Nat×Nat):Pie:=⟨q.1,q.2,szt L q.1,szt L q.2⟩
def z9t(L:List Tk)(n k:Nat):List Pie:=(List.range k).map λi=>zgN L (cut n i,cut n (i+1))
theorem zaH(L:List Tk)(n k:Nat):z9t L n (k+1)=z9t L n k++[zgN L (cut n k,cut n (k+1))]:=by unfold z9t;rw[List.range_succ,List.map_append];rfl
theorem z6m(L:List Tk)(n k:Nat):(z9t L n k).length=k:=by unfold z9t;rw[List.length_map,List.length_range]
def zkp:Value->Nat
 |.slice _ n _=>n
 |_=>0
theorem zbW(A:Option Addr)(n c:Nat)(L:List Tk)(w:World)(h:z0j w A n L)(hnc:n<=c)(hn:n<=30000):
 Calls prog 162 #[.slice A n c] w λe w'=> ∃v,e=.returned v/\z1p w.heap.size w' v (z9t L n (cnk n+1))/\Below w.heap.size w w':=by
 have hl:=h.leng
 have HSz:=qH (λ(f t:Nat) (hf:f<=t) (ht:t<=n) (X:Option Addr) (hX:(if c=f then A else Option.map (λx=>x.add (f*3)) A)=X) (w':World) (b:Below w.heap.size w w') (cx:Nat)=>(show Calls prog 195 #[.slice X (t - f:Nat) cx] w' (λe w2=>e=.returned (.int .i64 ((Tx.szs (seg L f t):Nat):Int))/\Below w'.heap.size w' w2) from
  Tx.size_any X (t - f) cx (seg L f t) w' (hX▸(h.below b).sub hnc hf ht) (by omega)))
 have HZs:=qH (λ(f t:Nat) (hf:f<=t) (ht:t<=n)=>(show szt L f+Tx.szs (seg L f t)=szt L t/\szt L t<=9000000 from⟨z9V L hf,by
  have h1:=z1L L ht;rw[z6a (n:=n) (by omega)] at h1;have h2:=Tx.szs_le L;omega⟩))
 clear h;go_enter func162,ntmps162;go_wp2_with fail
 go_loopw [3] (λv wr=> ∃k:Nat,k<=cnk n/\z1p (w.heap.size+1) wr v (z9t L n k)/\Hb wr 241 w.heap.size #[.int .i64 (cut n k:Nat),.int .i64 (cut n k:Nat),.int .i64 (szt L (cut n k):Nat),.int .i64 (szt L (cut n k):Nat)]/\Below w.heap.size w wr) (λv _=>cnk n+1 - zkp v)
 case atStart=>exact⟨0,qZ,z1p.nil _ _,by rw[z2E,z75];exact Hb.new _ _ _,qL⟩
 case round=>
  obtain⟨k,hk,hO,hP,hb⟩:=hrel;obtain⟨HO,HP,HB⟩:=qh3 hO hP hb;obtain⟨A1,c1,rfl⟩:=hO.form';have HN:=qH (z6m L n k);rw[HN.o];have hab:cut n k<=cut n (k+1):=z4K n k;have hbn:cut n (k+1)<=n:=(by unfold cut;omega);have h3:cut n (k+1)=min (cut n k+1024) n:=(by unfold cut;unfold cnk at hk;omega);have HS:=qH (zaH L n k);obtain⟨hz1,hz2⟩:=HZs.o _ _ hab hbn;have HC:=qH (show cut n (k+1)=n↔k=cnk n by unfold cut cnk;unfold cnk at hk;omega);obtain⟨a,ha⟩:∃a,cut n k=a:=⟨_,rfl⟩
  obtain⟨b,hbe⟩:∃b,cut n (k+1)=b:=⟨_,rfl⟩
  unfold zgN at HS;rw[ha,hbe] at HS hz1 hab;rw[hbe] at hz2 hbn h3 HC;rw[ha] at h3 HP;simp only at HS;obtain⟨x,hx⟩:∃x,szt L a=x:=⟨_,rfl⟩
  obtain⟨y,hy⟩:∃y,szt L b=y:=⟨_,rfl⟩
  obtain⟨z,hz⟩:∃z,Tx.szs (seg L a b)=z:=⟨_,rfl⟩
  obtain⟨X,hX⟩:∃X,(if c=a then A else Option.map (λx=>x.add (a*3)) A)=X:=⟨_,rfl⟩
  have HSa:=qH (HSz.o a b hab hbn X hX);rw[hz] at HSa;rw[hx,hy] at HS;rw[hx,hy,hz] at hz1;rw[hy] at hz2;rw[hx] at HP;have m1:min ((a:Int)+1024) (n:Int)=(b:Int):=(by omega);have m2:(if(n:Int)<(a:Int)+1024 then(n:Int) else(a:Int)+1024)=(b:Int):=(by split<;>omega);have hxy:(x:Int)+(z:Int)=(y:Int):=(by omega);have hbc:b<=c:=(by omega);have HXY:=qH (And.intro hx hy);have HAB:=qH (And.intro ha hbe);have p0:=HP.o.cell 0 rfl;have p1:=HP.o.cell 1 rfl;have f1:=HP.o.free 1;have Q1:=qH (HP.o.set 1 (.int .i64 b));clear hz hx hy ha hbe hO hP hb h3
  go_upto_region 4 with fail
  have q1:=Q1.o;have o1:=HO.o.at (w':=wr.setCell ⟨w.heap.size,1,none⟩ (.int .i64 b)) (λg hg=>Below.heap_setCell _ _ _ _ (by have:=(HO.o.lt g hg).1;show g≠w.heap.size;omega));have b1:=HB.o.setCell (p:=⟨w.heap.size,1,none⟩) qR (.int .i64 b);generalize wr.setCell ⟨w.heap.size,1,none⟩ (.int .i64 b)=w1 at q1 o1 b1 ⊢;clear p0 p1 f1 Q1;have q1:Hb w1 241 w.heap.size #[.int .i64 a,.int .i64 b,.int .i64 x,.int .i64 x]:=q1;obtain⟨Q1,O1,B1⟩:=qh3 q1 o1 b1;have p0:=q1.cell 0 rfl;have p1:=q1.cell 1 rfl;have p2:=q1.cell 2 rfl;have hlt:=q1.lt;clear q1 o1 b1;have hw1:IntKind.i64.wrap (y:Int)=(y:Int):=(by rw[IntKind.wrap_i64];omega);have hc3:(λw':World=>w'.cell? ⟨w.heap.size,0,none⟩=some (.int .i64 a)/\w'.cell? ⟨w.heap.size,1,none⟩=some (.int .i64 b)/\w'.cell? ⟨w.heap.size,2,none⟩=some (.int .i64 x)) w1:=⟨p0,p1,p2⟩
  go_region_held3 (λw':World=>w'.cell? ⟨w.heap.size,0,none⟩=some (.int .i64 a)/\w'.cell? ⟨w.heap.size,1,none⟩=some (.int .i64 b)/\w'.cell? ⟨w.heap.size,2,none⟩=some (.int .i64 x)) (first|exact hc3|exact l3|exact l4) (first|(go_at_call 195;(with_reducible refine(HSa.o _ (by first|exact(Below.refl _ w1).drew|exact B1.o|exact B1.o.drew) _).mono ?_);rintro e w2 ⟨rfl,b2'⟩;have b2:Below w1.heap.size w1 w2:=(by first|exact b2'|exact(Below.refl _ w1).drew.trans b2');clear b2';have k2:=Q1.o.below b2 hlt;have f3:=k2.free 3;have p3:=k2.cell 3 rfl;have K2:=qH k2;have k4:=k2.set 3 (.int .i64 y);have l4:=(And.intro (k4.cell 0 rfl) (And.intro (k4.cell 1 rfl) (k4.cell 2 rfl)));have K4:=qH k4;clear k4 k2;have B2:=qbt B1 b2;have O2:=qH (O1.o.below b2);have l3:w2.cell? ⟨w.heap.size,0,none⟩=some (.int .i64 a)/\w2.cell? ⟨w.heap.size,1,none⟩=some (.int .i64 b)/\w2.cell? ⟨w.heap.size,2,none⟩=some (.int .i64 x):=⟨(b2.cell (p:=⟨w.heap.size,0,none⟩) hlt).trans p0,(b2.cell (p:=⟨w.heap.size,1,none⟩) hlt).trans p1,(b2.cell (p:=⟨w.heap.size,2,none⟩) hlt).trans p2⟩))
  have k3:=K4.o;have o3:=O2.o.at (w':=w2.setCell ⟨w.heap.size,3,none⟩ (.int .i64 y)) (λg hg=>Below.heap_setCell _ _ _ _ (by have:=(O2.o.lt g hg).1;show g≠w.heap.size;omega));have b3:=B2.o.setCell (p:=⟨w.heap.size,3,none⟩) qR (.int .i64 y)
  rename_i hHeld
  clear l3 l4 K4 hHeld hc3 p0 p1 p2 p3 f3 b2 K2;generalize w2.setCell ⟨w.heap.size,3,none⟩ (.int .i64 y)=w3 at k3 o3 b3 ⊢;have k3:Hb w3 241 w.heap.size #[.int .i64 a,.int .i64 b,.int .i64 x,.int .i64 y]:=k3;rw[HN.o] at o3;obtain⟨K3,O3,B3⟩:=qh3 k3 o3 b3;obtain⟨p0,p1,p2,p3⟩:=k3.cells4;have hlt3:=k3.lt;clear k3 o3 b3 HSa hw1 hX;by_cases hbe2:b=n
  · have d1:((b:Int)==(n:Int))=true:=by rw[beq_iff_eq];omega
    have HE:=qH (HC.o.1 hbe2);clear hbe2 hbn hab m1 m2 hxy hbc hz1 hz2;go_wp2_with (at_builtin;refine z2N rfl (.tmp 23) (.tmp 25) rfl (w.heap.size+1) _ (z9t L n k) rfl (O3.o.alloc _) w3.heap.size 1 ⟨a,b,x,y⟩ rfl ⟨by simp,by simp,by simp,by simp⟩ (by rw[HN.o];have:=hk;unfold cnk at this;omega) (by simp;omega) ?_;intro v5 w5 o5 g5 _ b5;have K5:=qH ((K3.o.alloc (.cells #[.int .i64 a,.int .i64 b,.int .i64 x,.int .i64 y] 241)).below b5 (Nat.lt_succ_self _));obtain⟨p0,p1,p2,p3⟩:=K5.o.cells4;have O5:=qH o5;have B5:=qH ((B3.o.alloc B3.o.size _).trans (b5.mono (Nat.le_succ _)));clear o5 b5 g5);go_ret;refine⟨_,rfl,?_,B5.o⟩;rw[<-HE.o,HS.o];exact O5.o.low (Nat.le_succ _)
  · have d1:((b:Int)==(n:Int))=false:=by rw[qN];omega
    have HE:=qH (show k+1<=cnk n by have h9:¬k=cnk n:=λe=>hbe2 (HC.o.2 e);omega);clear hbe2 hbn hab m1 m2 hxy hbc hz1 hz2;go_wp2_with (at_builtin;refine z2N rfl (.tmp 23) (.tmp 25) rfl (w.heap.size+1) _ (z9t L n k) rfl (O3.o.alloc _) w3.heap.size 1 ⟨a,b,x,y⟩ rfl ⟨by simp,by simp,by simp,by simp⟩ (by rw[HN.o];have:=hk;unfold cnk at this;omega) (by simp;omega) ?_;intro v5 w5 o5 g5 _ b5;have K5:=qH ((K3.o.alloc (.cells #[.int .i64 a,.int .i64 b,.int .i64 x,.int .i64 y] 241)).below b5 (Nat.lt_succ_self _));obtain⟨p0,p1,p2,p3⟩:=K5.o.cells4;have f0:=K5.o.free 0;have f2:=K5.o.free 2;have O5:=qH o5;have B5:=qH ((B3.o.alloc B3.o.size _).trans (b5.mono (Nat.le_succ _)));clear o5 b5 g5);go_roundw
    case rel=>
     refine⟨k+1,HE.o,?_,?_,(B5.o.setCell (p:=⟨w.heap.size,0,none⟩) qR _).setCell (p:=⟨w.heap.size,2,none⟩) qR _⟩
     · rw[HS.o]
       refine(O5.o.at ?_);intro g hg;have:=(O5.o.lt g hg).1;exact(Below.heap_setCell _ _ _ _ (by show g≠w.heap.size;omega)).trans (Below.heap_setCell _ _ _ _ (by show g≠w.heap.size;omega))
     · rw[HAB.o.2,HXY.o.2]
       exact(K5.o.set 0 _).set 2 _
    case measure=>
     obtain⟨A6,c6,e6⟩:=O5.o.form';have:=HE.o;rw[e6];simp only[zkp,qA,HN.o,qC,List.length_nil];omega
