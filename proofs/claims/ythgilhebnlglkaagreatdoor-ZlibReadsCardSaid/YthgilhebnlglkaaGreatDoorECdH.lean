import Derived.Test.YthgilhebnlglkaaGreatDoorEMPkE
import Derived.Test.YthgilhebnlglkaaGreatDoorEMMath
import Derived.WalkSpells
set_option linter.all false
set_option maxHeartbeats 8000000
set_option maxRecDepth 1000000
open Go.Proofs.Tryz
namespace Go.Proofs.YthgilhebnlglkaaGreatDoor.C
open Go.RowKit M
def rc(l:Nat->Nat)(n i:Nat):Nat:=rv (cod l n i) (l i)
theorem rc_lt(l:Nat->Nat)(n i:Nat):rc l n i<2^l i:=z4o _ _
def Fit(l:Nat->Nat)(n:Nat):Prop:=May l n/\z02 l n<=32768
theorem turn_small_nat(N K:Nat)(w:World)(hN:N<=32768)(hK:K<=15):
 Calls prog 281 #[.int .u64 N,.int .i64 K] w λe w'=>e=.returned (.int .u64 (rv N K))/\w=w':=by
 have h:=z73 N K w (by omega) (by rw[Int.toNat_natCast];unfold big;omega);rw[Int.toNat_natCast,Int.toNat_natCast,show min K 64=K by omega] at h;exact h
theorem Crow.set1{w:World}{b n:Nat}{F G:Nat->Nat}(h:Crow w b n F G)(i x:Nat):Crow (w.setCell ⟨b,i*2,none⟩ (.int .u32 x)) b n (λj=>if j=i then x else F j) G:=by
 obtain⟨c,hb,hs,hc⟩:=h;refine⟨c.setIfInBounds (i*2) (.int .u32 x),?_,by simp[hs],λj hj=> ?_⟩
 · simp[World.setCell,Array.getElem?_modify,hb]
 · obtain⟨h1,h2⟩:=hc j hj
   by_cases e:j=i
   · subst e
     have l1:j*2<c.size:=(by omega);refine⟨?_,?_⟩
     · rw[Array.getElem?_setIfInBounds,if_pos rfl,if_pos l1];simp
     · rw[Array.getElem?_setIfInBounds,if_neg (by omega),h2]
   · refine⟨?_,?_⟩
     · rw[Array.getElem?_setIfInBounds,if_neg (by omega),h1];simp[e]
     · rw[Array.getElem?_setIfInBounds,if_neg (by omega),h2]
theorem writes_any(A:Option Addr)(n c:Nat)(l:Nat->Nat)(W:World)(hn:n<=maxLen)(hl:∀i,l i<=255)(H:z0e W .u8 A n (λi=>(l i:Int))):
 Calls prog 247 #[.slice A n c] W (zcD W (z32 l n) (rc l n) l (erc l n:Nat)):=by
 have HC:=qH (z5T A n c l W hn hl H)
 have HF:=qH (show 0<z32 l n->z32 l n=n/\Fit l n by
  intro h;rcases z3d (l:=l) (n:=n) with⟨_,_,h3⟩|⟨_,_,h3⟩|⟨h1,h1',_,h3⟩
  · omega
  · omega
  · exact⟨h3,z1e h1 h1'⟩)
 obtain⟨E,hE⟩:∃E,erc l n=E:=⟨_,rfl⟩
 obtain⟨N,hN⟩:∃N,z32 l n=N:=⟨_,rfl⟩
 rw[hE,hN] at HC ⊢;rw[hN] at HF;clear hE hN H hl;go_enter func247,ntmps247;go_wp2_with fail;refine HC.o.mono ?_;rintro e w1 ⟨A2,c2,rfl,hc1,hc2,hcd,b1,hrow⟩;have B1:=qH b1;clear b1 hcd;by_cases h0:0<N
 · obtain⟨b,rfl,hbs,hr⟩:=hrow h0
   obtain⟨rfl,hf⟩:=HF.o h0;obtain⟨HFt,HR0⟩:=qh2 hf hr;have hbW:=hbs;clear hrow hr hf;go_wp2_with fail
   go_loopw [15] (λi wr=> ∃k:Nat,k<=N/\i=.int .i64 k/\Crow wr b N (λj=>if j<k then rc l N j else cod l N j) l/\Below W.heap.size W wr) (λi _=>N - (intOf i).toNat)
   case atStart=>exact⟨0,qZ,rfl,HR0.o.congr (λi hi=>by simp) (λi hi=>rfl),B1.o⟩
   case round=>
    obtain⟨k,hkn,rfl,hr,hb⟩:=hrel;by_cases hlt:k<N
    · have h15:=HFt.o.1.2 k hlt
      have hcs:=z3j HFt.o.1 HFt.o.2 hlt;have hr1:=hr.cell1 hlt;have hr2:=hr.cell2 hlt;have hf1:=hr.frozen (k*2);rw[if_neg (Nat.lt_irrefl k)] at hr1;obtain⟨x,hx⟩:∃x,l k=x:=⟨_,rfl⟩
      obtain⟨y,hy⟩:∃y,cod l N k=y:=⟨_,rfl⟩
      rw[hx] at hr2 h15;rw[hy] at hr1 hcs;have hrv:=z4o y x;have hpw:2^x<=2^15:=Nat.pow_le_pow_right (by omega) h15;have hz:rv y x<=32768:=(by omega);have HT:=qH (λw=>turn_small_nat y x w (by omega) h15);have HZ:=qH (show rc l N k=rv y x by unfold rc;rw[hx,hy]);generalize hzz:rv y x=z at hz HZ HT;obtain⟨HR,HB⟩:=qh2 hr hb;have hbl:=hr.lt;clear hr hb hx hy hrv hpw hzz;go_wp2_with fail;refine(HT.o _).mono ?_;rintro e w2 ⟨rfl,rfl⟩;go_wp2_with fail;go_roundw
      case rel=>
       refine⟨k+1,by omega,by go_num,((HR.o.set1 k z).alloc _).congr (λi hi=> ?_) (λi hi=>rfl),((HB.o.setCell (by omega) _).alloc (by simp;exact HB.o.size) _)⟩;by_cases e:i=k
       · rw[if_pos e,if_pos (by omega),e,HZ.o]
       · rw[if_neg e]
         by_cases e2:i<k
         · rw[if_pos e2,if_pos (by omega)]
         · rw[if_neg e2,if_neg (by omega)]
      case measure=>simp[intOf];omega
    · obtain rfl:k=N:=by omega
      have HR:=qH (hr.congr (F':=rc l k) (G':=l) (λi hi=>by rw[if_pos hi]) (λi hi=>rfl));have HB:=qH hb;clear hr hb;go_wp2_with fail;go_ret2;exact⟨_,_,rfl,hc1,hc2,HR.o.cods,HB.o,λ_=>⟨_,rfl,hbW,HR.o⟩⟩
 · obtain rfl:N=0:=by omega
   clear hrow;go_wp2_with fail
   go_loopw [15] (λi wr=>i=.int .i64 0/\Below W.heap.size W wr) (λi _=>0)
   case atStart=>exact⟨rfl,B1.o⟩
   case round=>
    obtain⟨rfl,hb⟩:=hrel;have HB:=qH hb;clear hb;go_wp2_with fail;go_ret2;exact⟨_,_,rfl,hc1,hc2,z6V.nil _ _ _ _,HB.o,λh=>absurd h (by omega)⟩
