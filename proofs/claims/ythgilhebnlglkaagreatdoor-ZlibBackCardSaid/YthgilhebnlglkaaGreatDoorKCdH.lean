import Derived.Test.YthgilhebnlglkaaGreatDoorKMPkE
import Derived.Test.YthgilhebnlglkaaGreatDoorKMMath
import Derived.WalkSpells
set_option linter.all false
set_option maxHeartbeats 0
set_option maxRecDepth 1000000
open Go.Proofs.Tryz
namespace Go.Proofs.YthgilhebnlglkaaGreatDoor
namespace C
open Go.RowKit M
def rc(l:Nat->Nat)(n i:Nat):Nat:=rv (cod l n i) (l i)
theorem rc_lt(l:Nat->Nat)(n i:Nat):rc l n i<2^l i:=lQ _ _
def Fit(l:Nat->Nat)(n:Nat):Prop:=May l n/\aa l n<=32768
theorem turn_small_nat(N K:Nat)(w:World)(b:N<=32768)(a:K<=15):
 Calls prog 281 #[.int .u64 N,.int .i64 K] w λe w'=>e=.returned (.int .u64 (rv N K))/\w=w':=by
 have h:=nB N K w (by omega) (by rw[Au];unfold big;omega);rw[Au,Au,show min K 64=K by omega] at h;exact h
theorem Crow.set1{w:World}{b n:Nat}{F G:Nat->Nat}(h:Crow w b n F G)(i x:Nat):Crow (w.setCell ⟨b,i*2,none⟩ (.int .u32 x)) b n (λj=>if j=i then x else F j) G:=by
 obtain⟨c,d,hs,l⟩:=h;refine⟨c.setIfInBounds (i*2) (.int .u32 x),?_,by simp[hs],λj g=> ?_⟩
 · simp[World.setCell,BT,d]
 · obtain⟨f,a⟩:=l j g
   by_cases e:j=i
   · subst e
     have k:j*2<c.size:=(by omega);refine⟨?_,?_⟩
     · rw[Ad,A7 rfl,A7 k];simp
     · rw[Ad,A0 (by omega),a]
   · refine⟨?_,?_⟩
     · rw[Ad,A0 (by omega),f];simp[e]
     · rw[Ad,A0 (by omega),a]
theorem writes_any(A:Option Addr)(n c:Nat)(l:Nat->Nat)(W:World)(hn:n<=maxLen)(T:∀i,l i<=255)(H:av W .u8 A n (λi=>(l i:Int))):
 Calls prog 247 #[.slice A n c] W (IB W (hH l n) (rc l n) l (erc l n:Nat)):=by
 have Y:=qH (kV A n c l W hn T H)
 have X:=qH (show 0<hH l n->hH l n=n/\Fit l n by
  intro h;rcases ij (l:=l) (n:=n) with⟨_,_,M⟩|⟨_,_,M⟩|⟨h1,L,_,M⟩
  · omega
  · omega
  · exact⟨M,dz h1 L⟩)
 obtain⟨E,hE⟩:∃E,erc l n=E:=⟨_,rfl⟩
 obtain⟨N,I⟩:∃N,hH l n=N:=⟨_,rfl⟩
 rw[hE,I] at Y ⊢;rw[I] at X;clear hE I H T;go_enter func247,ntmps247;go_wp2_with fail;refine Y.o.mono ?_;rintro e w1 ⟨A2,c2,rfl,u,s,D,Z,d⟩;have U:=qH Z;clear Z D;by_cases h0:0<N
 · obtain⟨b,rfl,B,a⟩:=d h0
   obtain⟨rfl,hf⟩:=X.o h0;obtain⟨q,F⟩:=qh2 hf a;have G:=B;clear d a hf;go_wp2_with fail
   go_loopw [15] (λi wr=> ∃k:Nat,k<=N/\i=.int .i64 k/\Crow wr b N (λj=>if j<k then rc l N j else cod l N j) l/\Below W.heap.size W wr) (λi _=>N - (intOf i).toNat)
   case atStart=>exact⟨0,qZ,rfl,F.o.congr (λi hi=>by simp) (λi hi=>rfl),U.o⟩
   case round=>
    obtain⟨k,a2,rfl,a,p⟩:=hrel;by_cases g:k<N
    · have m:=q.o.1.2 k g
      have Q:=kX q.o.1 q.o.2 g;have t:=a.cell1 g;have J:=a.cell2 g;have a1:=a.frozen (k*2);rw[A0 (Db k)] at t;obtain⟨x,C⟩:∃x,l k=x:=⟨_,rfl⟩
      obtain⟨y,K⟩:∃y,cod l N k=y:=⟨_,rfl⟩
      rw[C] at J m;rw[K] at t Q;have O:=lQ y x;have R:2^x<=2^15:=Ak (by omega) m;have hz:rv y x<=32768:=(by omega);have V:=qH (λw=>turn_small_nat y x w (by omega) m);have S:=qH (show rc l N k=rv y x by unfold rc;rw[C,K]);generalize P:rv y x=z at hz S V;obtain⟨v,r⟩:=qh2 a p;have a0:=a.lt;clear a p C K O R P;go_wp2_with fail;refine(V.o _).mono ?_;rintro e w2 ⟨rfl,rfl⟩;go_wp2_with fail;go_roundw
      case rel=>
       refine⟨k+1,by omega,by go_num,((v.o.set1 k z).alloc _).congr (λi hi=> ?_) (λi hi=>rfl),((r.o.setCell (by omega) _).alloc (by simp;exact r.o.size) _)⟩;by_cases e:i=k
       · rw[A7 e,A7 (by omega),e,S.o]
       · rw[A0 e]
         by_cases e2:i<k
         · rw[A7 e2,A7 (by omega)]
         · rw[A0 e2,A0 (by omega)]
      case measure=>simp[intOf];omega
    · obtain rfl:k=N:=by omega
      have v:=qH (a.congr (F':=rc l k) (G':=l) (λi hi=>by rw[A7 hi]) (λi hi=>rfl));have r:=qH p;clear a p;go_wp2_with fail;go_ret2;exact⟨_,_,rfl,u,s,v.o.cods,r.o,λ_=>⟨_,rfl,G,v.o⟩⟩
 · obtain rfl:N=0:=by omega
   clear d;go_wp2_with fail
   go_loopw [15] (λi wr=>i=.int .i64 0/\Below W.heap.size W wr) (λi _=>0)
   case atStart=>exact⟨rfl,U.o⟩
   case round=>
    obtain⟨rfl,p⟩:=hrel;have r:=qH p;clear p;go_wp2_with fail;go_ret2;exact⟨_,_,rfl,u,s,rS.nil _ _ _ _,r.o,λh=>absurd h (by omega)⟩
