import Derived.Test.YthgilhebnlglkaaGreatDoorKMSpK
import Derived.Test.YthgilhebnlglkaaGreatDoorKT9TkE
set_option linter.all false
set_option maxHeartbeats 0
set_option maxRecDepth 1000000
open Go.Proofs.Tryz
namespace Go.Proofs.YthgilhebnlglkaaGreatDoor
namespace V
open Go Go.RowKit M U
def Eb(L:List Tk)(q:Nat×Nat):Pie:=⟨q.1,q.2,szt L q.1,szt L q.2⟩
def rO(L:List Tk)(n k:Nat):List Pie:=(List.range k).map λi=>Eb L (cut n i,cut n (i+1))
theorem tI(L:List Tk)(n k:Nat):rO L n (k+1)=rO L n k++[Eb L (cut n k,cut n (k+1))]:=by unfold rO;rw[Bi,Aw];rfl
theorem m9(L:List Tk)(n k:Nat):(rO L n k).length=k:=by unfold rO;rw[Ah,Dt]
def LF:Value->Nat
 |.slice _ n _=>n
 |_=>0
theorem vy(A:Option Addr)(n c:Nat)(L:List Tk)(w:World)(h:IsTks w A n L)(a0:n<=c)(hn:n<=30000):
 Calls prog 162 #[.slice A n c] w λe w'=> ∃v,e=.returned v/\cM w.heap.size w' v (rO L n (cnk n+1))/\Below w.heap.size w w':=by
 have hl:=h.leng
 have a3:=qH (λ(f t:Nat) (hf:f<=t) (ht:t<=n) (X:Option Addr) (hX:(if c=f then A else Option.map (λx=>x.add (f*3)) A)=X) (w':World) (b:Below w.heap.size w w') (cx:Nat)=>(show Calls prog 195 #[.slice X (t - f:Nat) cx] w' (λe w2=>e=.returned (.int .i64 ((Tx.szs (seg L f t):Nat):Int))/\Below w'.heap.size w' w2) from
  Tx.size_any X (t - f) cx (seg L f t) w' (hX▸(h.below b).sub a0 hf ht) (by omega)))
 have a4:=qH (λ(f t:Nat) (hf:f<=t) (ht:t<=n)=>(show szt L f+Tx.szs (seg L f t)=szt L t/\szt L t<=9000000 from⟨sE L hf,by
  have h1:=szt_mono L ht;rw[szt_all (n:=n) (by omega)] at h1;have h2:=Tx.szs_le L;omega⟩))
 clear h;go_enter func162,ntmps162;go_wp2_with fail
 go_loopw [3] (λv wr=> ∃k:Nat,k<=cnk n/\cM (w.heap.size+1) wr v (rO L n k)/\Hb wr 241 w.heap.size #[.int .i64 (cut n k:Nat),.int .i64 (cut n k:Nat),.int .i64 (szt L (cut n k):Nat),.int .i64 (szt L (cut n k):Nat)]/\Below w.heap.size w wr) (λv _=>cnk n+1 - LF v)
 case atStart=>exact⟨0,qZ,cM.nil _ _,by rw[dF,szt_zero];exact Hb.new _ _ _,qL⟩
 case round=>
  obtain⟨k,hk,hO,hP,hb⟩:=hrel;obtain⟨HO,M,HB⟩:=qh3 hO hP hb;obtain⟨A1,c1,rfl⟩:=hO.form';have P:=qH (m9 L n k);rw[P.o];have i:cut n k<=cut n (k+1):=jk n k;have j:cut n (k+1)<=n:=(by unfold cut;omega);have h3:cut n (k+1)=min (cut n k+1024) n:=(by unfold cut;unfold cnk at hk;omega);have K:=qH (tI L n k);obtain⟨m,r⟩:=a4.o _ _ i j;have HC:=qH (show cut n (k+1)=n↔k=cnk n by unfold cut cnk;unfold cnk at hk;omega);obtain⟨a,Z⟩:∃a,cut n k=a:=⟨_,rfl⟩
  obtain⟨b,q⟩:∃b,cut n (k+1)=b:=⟨_,rfl⟩
  unfold Eb at K;rw[Z,q] at K m i;rw[q] at r j h3 HC;rw[Z] at h3 M;simp only at K;obtain⟨x,S⟩:∃x,szt L a=x:=⟨_,rfl⟩
  obtain⟨y,Y⟩:∃y,szt L b=y:=⟨_,rfl⟩
  obtain⟨z,hz⟩:∃z,Tx.szs (seg L a b)=z:=⟨_,rfl⟩
  obtain⟨X,hX⟩:∃X,(if c=a then A else Option.map (λx=>x.add (a*3)) A)=X:=⟨_,rfl⟩
  have C:=qH (a3.o a b i j X hX);rw[hz] at C;rw[S,Y] at K;rw[S,Y,hz] at m;rw[Y] at r;rw[S] at M;have m1:min ((a:Int)+1024) (n:Int)=(b:Int):=(by omega);have m2:(if(n:Int)<(a:Int)+1024 then(n:Int) else(a:Int)+1024)=(b:Int):=(by split<;>omega);have Q:(x:Int)+(z:Int)=(y:Int):=(by omega);have V:b<=c:=(by omega);have a1:=qH (And.intro S Y);have a5:=qH (And.intro Z q);have B:=M.o.cell 0 rfl;have u:=M.o.cell 1 rfl;have f1:=M.o.free 1;have Q1:=qH (M.o.set 1 (.int .i64 b));clear hz S Y Z q hO hP hb h3
  go_upto_region 4 with fail
  have l:=Q1.o;have o1:=HO.o.at (w':=wr.setCell ⟨w.heap.size,1,none⟩ (.int .i64 b)) (λg T=>Below.heap_setCell _ _ _ _ (by have:=(HO.o.lt g T).1;show g≠w.heap.size;omega));have b1:=HB.o.setCell (p:=⟨w.heap.size,1,none⟩) qR (.int .i64 b);generalize wr.setCell ⟨w.heap.size,1,none⟩ (.int .i64 b)=w1 at l o1 b1 ⊢;clear B u f1 Q1;have l:Hb w1 241 w.heap.size #[.int .i64 a,.int .i64 b,.int .i64 x,.int .i64 x]:=l;obtain⟨Q1,O1,B1⟩:=qh3 l o1 b1;have B:=l.cell 0 rfl;have u:=l.cell 1 rfl;have J:=l.cell 2 rfl;have s:=l.lt;clear l o1 b1;have a2:IntKind.i64.wrap (y:Int)=(y:Int):=(by rw[IntKind.wrap_i64];omega);have N:(λw':World=>w'.cell? ⟨w.heap.size,0,none⟩=some (.int .i64 a)/\w'.cell? ⟨w.heap.size,1,none⟩=some (.int .i64 b)/\w'.cell? ⟨w.heap.size,2,none⟩=some (.int .i64 x)) w1:=⟨B,u,J⟩
  go_region_held3 (λw':World=>w'.cell? ⟨w.heap.size,0,none⟩=some (.int .i64 a)/\w'.cell? ⟨w.heap.size,1,none⟩=some (.int .i64 b)/\w'.cell? ⟨w.heap.size,2,none⟩=some (.int .i64 x)) (first|exact N|exact l3|exact l4) (first|(go_at_call 195;(with_reducible refine(C.o _ (by first|exact(Below.refl _ w1).drew|exact B1.o|exact B1.o.drew) _).mono ?_);rintro e w2 ⟨rfl,F⟩;have G:Below w1.heap.size w1 w2:=(by first|exact F|exact(Below.refl _ w1).drew.trans F);clear F;have W:=Q1.o.below G s;have f3:=W.free 3;have p3:=W.cell 3 rfl;have K2:=qH W;have R:=W.set 3 (.int .i64 y);have l4:=(And.intro (R.cell 0 rfl) (And.intro (R.cell 1 rfl) (R.cell 2 rfl)));have K4:=qH R;clear R W;have B2:=qbt B1 G;have O2:=qH (O1.o.below G);have l3:w2.cell? ⟨w.heap.size,0,none⟩=some (.int .i64 a)/\w2.cell? ⟨w.heap.size,1,none⟩=some (.int .i64 b)/\w2.cell? ⟨w.heap.size,2,none⟩=some (.int .i64 x):=⟨(G.cell (p:=⟨w.heap.size,0,none⟩) s).trans B,(G.cell (p:=⟨w.heap.size,1,none⟩) s).trans u,(G.cell (p:=⟨w.heap.size,2,none⟩) s).trans J⟩))
  have H:=K4.o;have o3:=O2.o.at (w':=w2.setCell ⟨w.heap.size,3,none⟩ (.int .i64 y)) (λg T=>Below.heap_setCell _ _ _ _ (by have:=(O2.o.lt g T).1;show g≠w.heap.size;omega));have b3:=B2.o.setCell (p:=⟨w.heap.size,3,none⟩) qR (.int .i64 y)
  rename_i E
  clear l3 l4 K4 E N B u J p3 f3 G K2;generalize w2.setCell ⟨w.heap.size,3,none⟩ (.int .i64 y)=w3 at H o3 b3 ⊢;have H:Hb w3 241 w.heap.size #[.int .i64 a,.int .i64 b,.int .i64 x,.int .i64 y]:=H;rw[P.o] at o3;obtain⟨K3,O3,B3⟩:=qh3 H o3 b3;obtain⟨B,u,J,p3⟩:=H.cells4;have a6:=H.lt;clear H o3 b3 C a2 hX;by_cases d:b=n
  · have d1:((b:Int)==(n:Int))=true:=by rw[AG];omega
    have HE:=qH (HC.o.1 d);clear d j i m1 m2 Q V m r;go_wp2_with (at_builtin;refine fa rfl (.tmp 23) (.tmp 25) rfl (w.heap.size+1) _ (rO L n k) rfl (O3.o.alloc _) w3.heap.size 1 ⟨a,b,x,y⟩ rfl ⟨by simp,by simp,by simp,by simp⟩ (by rw[P.o];have:=hk;unfold cnk at this;omega) (by simp;omega) ?_;intro v5 w5 O g5 _ D;have I:=qH ((K3.o.alloc (.cells #[.int .i64 a,.int .i64 b,.int .i64 x,.int .i64 y] 241)).below D (D4 _));obtain⟨B,u,J,p3⟩:=I.o.cells4;have U:=qH O;have B5:=qH ((B3.o.alloc B3.o.size _).trans (D.mono (Cw _)));clear O D g5);go_ret;refine⟨_,rfl,?_,B5.o⟩;rw[<-HE.o,K.o];exact U.o.low (Cw _)
  · have d1:((b:Int)==(n:Int))=false:=by rw[qN];omega
    have HE:=qH (show k+1<=cnk n by have h9:¬k=cnk n:=λe=>d (HC.o.2 e);omega);clear d j i m1 m2 Q V m r;go_wp2_with (at_builtin;refine fa rfl (.tmp 23) (.tmp 25) rfl (w.heap.size+1) _ (rO L n k) rfl (O3.o.alloc _) w3.heap.size 1 ⟨a,b,x,y⟩ rfl ⟨by simp,by simp,by simp,by simp⟩ (by rw[P.o];have:=hk;unfold cnk at this;omega) (by simp;omega) ?_;intro v5 w5 O g5 _ D;have I:=qH ((K3.o.alloc (.cells #[.int .i64 a,.int .i64 b,.int .i64 x,.int .i64 y] 241)).below D (D4 _));obtain⟨B,u,J,p3⟩:=I.o.cells4;have f0:=I.o.free 0;have f2:=I.o.free 2;have U:=qH O;have B5:=qH ((B3.o.alloc B3.o.size _).trans (D.mono (Cw _)));clear O D g5);go_roundw
    case rel=>
     refine⟨k+1,HE.o,?_,?_,(B5.o.setCell (p:=⟨w.heap.size,0,none⟩) qR _).setCell (p:=⟨w.heap.size,2,none⟩) qR _⟩
     · rw[K.o]
       refine(U.o.at ?_);intro g T;have:=(U.o.lt g T).1;exact(Below.heap_setCell _ _ _ _ (by show g≠w.heap.size;omega)).trans (Below.heap_setCell _ _ _ _ (by show g≠w.heap.size;omega))
     · rw[a5.o.2,a1.o.2]
       exact(I.o.set 0 _).set 2 _
    case measure=>
     obtain⟨A6,c6,e6⟩:=U.o.form';have:=HE.o;rw[e6];simp only[LF,qA,P.o,qC,AB];omega
