import Derived.Test.YthgilhebnlglkaaGreatDoorKMSaA
import Derived.RangeFuncNested
import Derived.Shelf.Abstract
import Derived.OwnWalkIn
import Derived.TacticsInMore
import Derived.LoopIn
import Derived.Laws.EntriesVeiled
set_option linter.all false
set_option maxHeartbeats 0
set_option maxRecDepth 1000000
open Go.Proofs.Tryz
namespace Go.Proofs.YthgilhebnlglkaaGreatDoor
namespace U
open Go Go.RowKit M
attribute [local go_sem] Oper.semAt_some
def rst(v n left:Nat):List Rn:=if v=0 then zrs left else if left=n then oth v n else qs v left
theorem FY(v n:Nat):rst v n n=one v n:=by
 unfold rst one
 split
 · rfl
 · rw[A7 rfl]
theorem xu(v n:Nat)(a:1<=n):rst v n 0=[]:=by
 unfold rst
 split
 · rw[aV (by omega)];rfl
 · rw[A0 (by omega),bE (by omega)];rfl
structure Rnd(v n left s k:Nat):Prop where
 sym:s=sof v left (decide (left<n))
 lt:s<19
 cnt:k=min left (smo s)
 lo:sl s<=k
 hi:k<=left
 pos:1<=k
 few:k - sl s<=127
 rest:rst v n left=⟨s,k - sl s⟩::rst v n (left - k)
theorem rnd(v n a:Nat)(h:v<=15)(i:1<=a)(j:a<=n):∃s k,Rnd v n a s k:=by
 by_cases c:v=0
 · subst c
   by_cases d:11<=a
   · refine⟨18,min a 138,⟨?_,by omega,rfl,?_,by omega,by omega,?_,?_⟩⟩
     · unfold sof;rw[A7 ⟨rfl,d⟩]
     · show 11<=_;omega
     · show _ - 11<=_;omega
     · unfold rst;rw[A7 rfl,A7 rfl,bB d];rfl
   · by_cases e:3<=a
     · refine⟨17,a,⟨?_,by omega,?_,?_,by omega,by omega,?_,?_⟩⟩
       · unfold sof;rw[A0 (λq=>d q.2),A7 ⟨rfl,e⟩]
       · show a=min a 10;omega
       · exact e
       · show _ - 3<=_;omega
       · unfold rst;rw[A7 rfl,A7 rfl,bA d e,Dj,aV (by omega)];rfl
     · refine⟨0,1,⟨?_,by omega,?_,?_,by omega,by omega,?_,?_⟩⟩
       · unfold sof;rw[A0 (λq=>d q.2),A0 (λq=>e q.2),A0 (λq=>q.1 rfl)]
       · show 1=min a 1;omega
       · exact qR
       · show 1 - 1<=_;omega
       · unfold rst
         rw[A7 rfl,A7 rfl,aV e,aV (by omega)];obtain⟨q,rfl⟩:∃q,a=q+1:=⟨a - 1,by omega⟩
         rw[BB];rfl
 · have b:sl v=1:=by unfold sl;rw[A7 (by omega)]
   have f:smo v=1:=(by unfold smo sm;rw[b,A7 (by omega)]);by_cases g:a=n
   · subst g
     refine⟨v,1,⟨?_,by omega,by rw[f];omega,by rw[b];exact qR,by omega,by omega,by rw[b];omega,?_⟩⟩
     · unfold sof;rw[A0 (λq=>c q.1),A0 (λq=>c q.1),A0 (λq=>by have:=q.2.1;simp at this)]
     · unfold rst;rw[A0 c,A7 rfl,A0 c,A0 (by omega),b];rfl
   · by_cases e:3<=a
     · refine⟨16,min a 6,⟨?_,by omega,rfl,?_,by omega,by omega,?_,?_⟩⟩
       · unfold sof;rw[A0 (λq=>c q.1),A0 (λq=>c q.1),A7 ⟨c,q9T (by omega),e⟩]
       · show 3<=_;omega
       · show _ - 3<=_;omega
       · unfold rst;rw[A0 c,A0 g,A0 c,A0 (by omega),bf e];rfl
     · refine⟨v,1,⟨?_,by omega,by rw[f];omega,by rw[b];exact qR,by omega,by omega,by rw[b];omega,?_⟩⟩
       · unfold sof;rw[A0 (λq=>c q.1),A0 (λq=>c q.1),A0 (λq=>e q.2.2)]
       · unfold rst
         rw[A0 c,A0 g,A0 c,A0 (by omega),bE e,bE (by omega),b];obtain⟨q,rfl⟩:∃q,a=q+1:=⟨a - 1,by omega⟩
         rw[BB];rfl
def KF(x:Rn):Array Value:= #[.agg #[.int .u8 x.s,.int .u8 x.e]]
def Sx(R M n₁:Nat):Nat->Prop:=λj=>j=R\/j=M\/n₁<=j
theorem keptSx_t{R M n₁:Nat}{A B C:World}(h:Kept (Sx R M n₁) A B)(k:Kept (Sx R M n₁) B C):Kept (Sx R M n₁) A C:=h.trans k λj a=> .inl a
theorem keptSx_b{R M n₁:Nat}(W:World)(l:Nat)(o a:Obj)(b:n₁<=l)(h:W.heap[l]? =some o):Kept (Sx R M n₁) W (W.putObj l a):=
 (Kept.refl _ W).grown (grownBy_putObj' W l a) (λk e=>by cases e;exact .inl (.inr (.inr b)))
theorem sx_no{R M n₁ j:Nat}(c:j<n₁)(a:j≠R)(b:j≠M):¬Sx R M n₁ j:=λg=>by
 rcases g with g|g|g
 · exact a g
 · exact b g
 · omega
theorem Tab.kept{S:Nat->Prop}{w w':World}(h:Tab w)(b:Kept S w w')(a:¬S 4):Tab w':=
 ⟨λi hi=>b.cell (h.at0 i hi) a,λi hi=>b.cell (h.at1 i hi) a⟩
theorem wW(m l Bt N R M n₁ v n:Nat)(hm:1<=m)(X:v<=15)(U:1<=n)(hn:n<=2000)(O:Bt<n₁)(P:Bt≠R)(Q:Bt≠M)(I:N<n₁)(S:N≠R)(G:N≠M)
 (a7: 4 <n₁) (a5: 4 ≠R) (a6: 4 ≠M) (A:World) (a9:n₁<=A.heap.size) (J Jx:List Rn->World->Prop) (hJ:AbidesFrom A.heap.size J)
 (hY:∀c x W,J c W->c.length<n->YieldAt Fence.wide (m - 1) prog l (KF x) W λe E=>
  (e=.returned (.bool true)/\J (c++[x]) E/\Kept (Sx R M n₁) W E)\/(e=.returned (.bool false)/\Jx (c++[x]) E))
 (F:A.cell? ⟨Bt,0,none⟩=some (.int .i64 n)) (T:A.cell? ⟨N,0,none⟩=some (.int .u8 v)) (hT:Tab A) (h0:J [] A):
 CallsIn Fence.wide m prog 327 #[.func (.yield l) #[] #[],.pointer (some ⟨Bt,0,none⟩),.pointer (some ⟨N,0,none⟩)] A λe E=>(∃v,e=.returned v)/\
  ((∃ys:List Rn,ys=one v n/\J ys E)\/(∃c:List Rn,True/\Jx c E)):=by
 refine callsIn_of_wp func327 rfl trivial ?_ rfl;simp only[ntmps327,AE,qC,AB,Nat.reduceAdd,Nat.reduceSub,Be,Bf,Bg,Bh,Ap,Ac];have HT:=qH hT;have B:=qH (λ(v n:Nat) (b:Bool) (w:World) (H:Tab w) (X:v<=15) (hn:n<=2000)=>FK v n b w H X hn);have L:=qH (λ(s:Nat) (w:World) (H:Tab w) (hs:s<19)=>yk s w H hs);clear hT;gi_wp2
 gi_loopw [4] (λi wr=> ∃ (a:Nat) (c:List Rn),a<=n/\i=.int .i64 a/\c++rst v n a=one v n/\J c wr/\Kept (Sx R M n₁) A wr)
  (λi _=>(intOf i).toNat)
 case atStart=>exact⟨n,[],qR,rfl,by rw[Ap,FY],h0,Kept.refl _ _⟩
 case round=>
  obtain⟨a,c,hl,rfl,K,D,p⟩:=hrel;by_cases a4:0<a
  · obtain⟨s,k,h⟩:=rnd v n a X a4 hl
    have a2:c.length<n:=by
     have e1:=congrArg List.length K;rw[h.rest,qA,qC] at e1;have e2:=tU v n U;omega
    have n1:=p.cell F (sx_no O P Q);have n2:=p.cell T (sx_no I S G);have Y:=HT.o.kept p (sx_no a7 a5 a6);have c0:=Y.at0 s h.lt;have t:=B.o v a (decide (a<n)) wr Y X (by omega);rw[<-h.sym] at t;have HS:=qH t;have C:=L.o s wr Y h.lt;obtain⟨mo,z⟩:∃mo,smo s=mo:=⟨_,rfl⟩
    have hk:=h.cnt;rw[z] at hk C;have HM:=qH C;have i1:(if(mo:Int)<(a:Int) then(mo:Int) else(a:Int))=(k:Int):=(by split<;>omega);have a8:(if mo<a then(mo:Int) else(a:Int))=(k:Int):=(by split<;>omega);have i2:(if mo<a then mo else a)=k:=(by split<;>omega);have b1:(a:Int)<(n:Int)↔a<n:=(by omega);generalize hu:sl s=u at c0;have b2:=h.lo;have b3:=h.hi;have b4:=h.pos;have b5:=h.few;have b6:=h.lt;rw[hu] at b2 b5;obtain⟨x,hx⟩:∃x,k - u=x:=⟨_,rfl⟩
    have e1:(k:Int) - (u:Int)=(x:Int):=(by omega);obtain⟨y,Z⟩:∃y,a - k=y:=⟨_,rfl⟩
    have e2:(a:Int) - (k:Int)=(y:Int):=(by omega);have d:=h.rest;rw[hu,hx,Z] at d;have HP:=qH (show(c++[⟨s,x⟩])++rst v n y=one v n by rw[qD,<-K,d];rfl);have HK:=qH p;have a0:=qH (λq=>hJ c wr (wr.drewN q) none D ⟨rfl,rfl,rfl,qR,λk hk _=>rfl⟩ (λr e=>by cases e));clear p K D h t C z hk hu hx d F T h0 B L Y
    gi_wp2_with (refine⟨trivial,?_⟩;first|(gi_at_call 328;(with_reducible refine(callsIn_wide.2 HS.o).mono ?_);rintro e w' ⟨rfl,rfl⟩)|(gi_at_call 329;(with_reducible refine(callsIn_wide.2 HM.o).mono ?_);rintro e w' ⟨rfl,q,rfl⟩;obtain⟨fn,tmps,V,body,Z,hR⟩:=hY c ⟨s,x⟩ _ (a0.o q) a2;unfold KF at Z;dsimp only at Z))
    refine hR.mono ?_
    rintro e W3 (⟨rfl,a1,a3⟩|⟨rfl,hJx3⟩)
    · gi_wp2
      go_roundw
      case rel=>exact⟨y,c++[⟨s,x⟩],by omega,by go_num,HP.o,a1,keptSx_t HK.o ((Kept.refl _ wr).drewN q|>.trans a3 λj hj=> .inl hj)⟩
      case measure=>simp[intOf];omega
    · gi_wp2
      refine bodyPost_ret (results_none rfl _ _ _) rfl ?_
      exact⟨⟨_,rfl⟩,.inr ⟨_,trivial,hJx3⟩⟩
  · obtain rfl:a=0:=by omega
    have HP:=qH K;clear K;gi_wp2;go_end0;exact⟨⟨_,rfl⟩,.inl ⟨c,by have:=HP.o;rw[xu v n U,Az] at this;exact this,D⟩⟩
theorem told_any(v n:Nat)(w:World):Calls prog 308 #[.int .u8 v,.int .i64 n] w λe w'=>
 e=.returned (.func (.func 327) #[] #[.pointer (some ⟨w.heap.size+1,0,none⟩),.pointer (some ⟨w.heap.size,0,none⟩)])/\w'=(w.alloc (.cells #[.int .u8 v] 5)).alloc (.cells #[.int .i64 n] 3):=by
 go_enter func308,ntmps308;go_wp2;go_ret;exact⟨by simp,rfl⟩
theorem pX(m Bt a R M n₁ v n:Nat)(z:1<=m)(x:v<=15)(r:1<=n)(E:n<=2000)(d:Bt<n₁)(e:Bt≠R)(h:Bt≠M)(c:a<n₁)(i:a≠R)(b:a≠M)
 (u: 4 <n₁) (s: 4 ≠R) (t: 4 ≠M) (w:World) (o:n₁<=w.heap.size)
 (k:w.cell? ⟨Bt,0,none⟩=some (.int .i64 n)) (q:w.cell? ⟨a,0,none⟩=some (.int .u8 v)) (y:Tab w):
 SeqStopsK Fence.wide m prog 327 #[.pointer (some ⟨Bt,0,none⟩),.pointer (some ⟨a,0,none⟩)] KF (Kept (Sx R M n₁)) (λA=>A=one v n) (λ_=>True) n w:=λl J B W j D _ C F=>
 wW m l Bt a R M n₁ v n z x r E d e h c i b u s t W (qK o j.size) J B D C ((j.cell (p:=⟨Bt,0,none⟩) (by show Bt<_;omega)).trans k) ((j.cell (p:=⟨a,0,none⟩) (by show a<_;omega)).trans q) (y.below j qR) F
