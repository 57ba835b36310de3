import Derived.Test.YthgilhebnlglkaaGreatDoorEMSaA
import Derived.RangeFuncNested
import Derived.Shelf.Abstract
import Derived.OwnWalkIn
import Derived.TacticsInMore
import Derived.LoopIn
import Derived.Laws.EntriesVeiled
set_option linter.all false
set_option maxHeartbeats 8000000
set_option maxRecDepth 1000000
open Go.Proofs.Tryz
namespace Go.Proofs.YthgilhebnlglkaaGreatDoor.U
open Go Go.RowKit M
attribute [local go_sem] Oper.semAt_some
def rst(v n left:Nat):List Rn:=if v=0 then zrs left else if left=n then oth v n else z9u v left
theorem zgy(v n:Nat):rst v n n=one v n:=by
 unfold rst one
 split
 · rfl
 · rw[if_pos rfl]
theorem zd7(v n:Nat)(hn:1<=n):rst v n 0=[]:=by
 unfold rst
 split
 · rw[z18 (by omega)];rfl
 · rw[if_neg (by omega),z12 (by omega)];rfl
structure Rnd(v n left s k:Nat):Prop where
 sym:s=sof v left (decide (left<n))
 lt:s<19
 cnt:k=min left (smo s)
 lo:sl s<=k
 hi:k<=left
 pos:1<=k
 few:k - sl s<=127
 rest:rst v n left=⟨s,k - sl s⟩::rst v n (left - k)
theorem rnd(v n left:Nat)(hv:v<=15)(h1:1<=left)(h2:left<=n):∃s k,Rnd v n left s k:=by
 by_cases h0:v=0
 · subst h0
   by_cases h11:11<=left
   · refine⟨18,min left 138,⟨?_,by omega,rfl,?_,by omega,by omega,?_,?_⟩⟩
     · unfold sof;rw[if_pos ⟨rfl,h11⟩]
     · show 11<=_;omega
     · show _ - 11<=_;omega
     · unfold rst;rw[if_pos rfl,if_pos rfl,z1I h11];rfl
   · by_cases h3:3<=left
     · refine⟨17,left,⟨?_,by omega,?_,?_,by omega,by omega,?_,?_⟩⟩
       · unfold sof;rw[if_neg (λq=>h11 q.2),if_pos ⟨rfl,h3⟩]
       · show left=min left 10;omega
       · exact h3
       · show _ - 3<=_;omega
       · unfold rst;rw[if_pos rfl,if_pos rfl,z1H h11 h3,Nat.sub_self,z18 (by omega)];rfl
     · refine⟨0,1,⟨?_,by omega,?_,?_,by omega,by omega,?_,?_⟩⟩
       · unfold sof;rw[if_neg (λq=>h11 q.2),if_neg (λq=>h3 q.2),if_neg (λq=>q.1 rfl)]
       · show 1=min left 1;omega
       · exact qR
       · show 1 - 1<=_;omega
       · unfold rst
         rw[if_pos rfl,if_pos rfl,z18 h3,z18 (by omega)];obtain⟨q,rfl⟩:∃q,left=q+1:=⟨left - 1,by omega⟩
         rw[List.replicate_succ];rfl
 · have hs1:sl v=1:=by unfold sl;rw[if_pos (by omega)]
   have hm1:smo v=1:=(by unfold smo sm;rw[hs1,if_pos (by omega)]);by_cases he:left=n
   · subst he
     refine⟨v,1,⟨?_,by omega,by rw[hm1];omega,by rw[hs1];exact qR,by omega,by omega,by rw[hs1];omega,?_⟩⟩
     · unfold sof;rw[if_neg (λq=>h0 q.1),if_neg (λq=>h0 q.1),if_neg (λq=>by have:=q.2.1;simp at this)]
     · unfold rst;rw[if_neg h0,if_pos rfl,if_neg h0,if_neg (by omega),hs1];rfl
   · by_cases h3:3<=left
     · refine⟨16,min left 6,⟨?_,by omega,rfl,?_,by omega,by omega,?_,?_⟩⟩
       · unfold sof;rw[if_neg (λq=>h0 q.1),if_neg (λq=>h0 q.1),if_pos ⟨h0,q9T (by omega),h3⟩]
       · show 3<=_;omega
       · show _ - 3<=_;omega
       · unfold rst;rw[if_neg h0,if_neg he,if_neg h0,if_neg (by omega),z1c h3];rfl
     · refine⟨v,1,⟨?_,by omega,by rw[hm1];omega,by rw[hs1];exact qR,by omega,by omega,by rw[hs1];omega,?_⟩⟩
       · unfold sof;rw[if_neg (λq=>h0 q.1),if_neg (λq=>h0 q.1),if_neg (λq=>h3 q.2.2)]
       · unfold rst
         rw[if_neg h0,if_neg he,if_neg h0,if_neg (by omega),z12 h3,z12 (by omega),hs1];obtain⟨q,rfl⟩:∃q,left=q+1:=⟨left - 1,by omega⟩
         rw[List.replicate_succ];rfl
def zjE(x:Rn):Array Value:= #[.agg #[.int .u8 x.s,.int .u8 x.e]]
def Sx(R M n₁:Nat):Nat->Prop:=λj=>j=R\/j=M\/n₁<=j
theorem keptSx_t{R M n₁:Nat}{A B C:World}(h:Kept (Sx R M n₁) A B)(k:Kept (Sx R M n₁) B C):Kept (Sx R M n₁) A C:=h.trans k λj hj=> .inl hj
theorem keptSx_b{R M n₁:Nat}(W:World)(l:Nat)(o o':Obj)(hl:n₁<=l)(h:W.heap[l]? =some o):Kept (Sx R M n₁) W (W.putObj l o'):=
 (Kept.refl _ W).grown (grownBy_putObj' W l o') (λk e=>by cases e;exact .inl (.inr (.inr hl)))
theorem sx_no{R M n₁ j:Nat}(h1:j<n₁)(h2:j≠R)(h3:j≠M):¬Sx R M n₁ j:=λg=>by
 rcases g with g|g|g
 · exact h2 g
 · exact h3 g
 · omega
theorem Tab.kept{S:Nat->Prop}{w w':World}(h:Tab w)(hk:Kept S w w')(hS:¬S 4):Tab w':=
 ⟨λi hi=>hk.cell (h.at0 i hi) hS,λi hi=>hk.cell (h.at1 i hi) hS⟩
theorem zcO(m l Bt Bv R M n₁ v n:Nat)(hm:1<=m)(hv:v<=15)(h1n:1<=n)(hn:n<=2000)(hBt1:Bt<n₁)(hBt2:Bt≠R)(hBt3:Bt≠M)(hBv1:Bv<n₁)(hBv2:Bv≠R)(hBv3:Bv≠M)
 (hG1: 4 <n₁) (hG2: 4 ≠R) (hG3: 4 ≠M) (W0:World) (hn1:n₁<=W0.heap.size) (J Jx:List Rn->World->Prop) (hJ:AbidesFrom W0.heap.size J)
 (hY:∀pre x W,J pre W->pre.length<n->YieldAt Fence.wide (m - 1) prog l (zjE x) W λe W'=>
  (e=.returned (.bool true)/\J (pre++[x]) W'/\Kept (Sx R M n₁) W W')\/(e=.returned (.bool false)/\Jx (pre++[x]) W'))
 (hBt:W0.cell? ⟨Bt,0,none⟩=some (.int .i64 n)) (hBv:W0.cell? ⟨Bv,0,none⟩=some (.int .u8 v)) (hT:Tab W0) (h0:J [] W0):
 CallsIn Fence.wide m prog 327 #[.func (.yield l) #[] #[],.pointer (some ⟨Bt,0,none⟩),.pointer (some ⟨Bv,0,none⟩)] W0 λe W'=>(∃v,e=.returned v)/\
  ((∃ys:List Rn,ys=one v n/\J ys W')\/(∃pre:List Rn,True/\Jx pre W')):=by
 refine callsIn_of_wp func327 rfl trivial ?_ rfl;simp only[ntmps327,List.size_toArray,qC,List.length_nil,Nat.reduceAdd,Nat.reduceSub,Array.replicate_succ,Array.replicate_zero,List.push_toArray,List.append_toArray,List.nil_append,List.cons_append];have HT:=qH hT;have HSof:=qH (λ(v n:Nat) (b:Bool) (w:World) (H:Tab w) (hv:v<=15) (hn:n<=2000)=>zgp v n b w H hv hn);have HMo:=qH (λ(s:Nat) (w:World) (H:Tab w) (hs:s<19)=>zdH s w H hs);clear hT;gi_wp2
 gi_loopw [4] (λi wr=> ∃ (left:Nat) (pre:List Rn),left<=n/\i=.int .i64 left/\pre++rst v n left=one v n/\J pre wr/\Kept (Sx R M n₁) W0 wr)
  (λi _=>(intOf i).toNat)
 case atStart=>exact⟨n,[],qR,rfl,by rw[List.nil_append,zgy],h0,Kept.refl _ _⟩
 case round=>
  obtain⟨left,pre,hl,rfl,hp,hJs,hkp⟩:=hrel;by_cases hlt:0<left
  · obtain⟨s,k,hr⟩:=rnd v n left hv hlt hl
    have hpl:pre.length<n:=by
     have e1:=congrArg List.length hp;rw[hr.rest,qA,qC] at e1;have e2:=zaQ v n h1n;omega
    have n1:=hkp.cell hBt (sx_no hBt1 hBt2 hBt3);have n2:=hkp.cell hBv (sx_no hBv1 hBv2 hBv3);have ht:=HT.o.kept hkp (sx_no hG1 hG2 hG3);have c0:=ht.at0 s hr.lt;have hsof:=HSof.o v left (decide (left<n)) wr ht hv (by omega);rw[<-hr.sym] at hsof;have HS:=qH hsof;have hmo:=HMo.o s wr ht hr.lt;obtain⟨mo,hmo'⟩:∃mo,smo s=mo:=⟨_,rfl⟩
    have hk:=hr.cnt;rw[hmo'] at hk hmo;have HM:=qH hmo;have i1:(if(mo:Int)<(left:Int) then(mo:Int) else(left:Int))=(k:Int):=(by split<;>omega);have i1':(if mo<left then(mo:Int) else(left:Int))=(k:Int):=(by split<;>omega);have i2:(if mo<left then mo else left)=k:=(by split<;>omega);have b1:(left:Int)<(n:Int)↔left<n:=(by omega);generalize hu:sl s=u at c0;have b2:=hr.lo;have b3:=hr.hi;have b4:=hr.pos;have b5:=hr.few;have b6:=hr.lt;rw[hu] at b2 b5;obtain⟨x,hx⟩:∃x,k - u=x:=⟨_,rfl⟩
    have e1:(k:Int) - (u:Int)=(x:Int):=(by omega);obtain⟨y,hy⟩:∃y,left - k=y:=⟨_,rfl⟩
    have e2:(left:Int) - (k:Int)=(y:Int):=(by omega);have hRest:=hr.rest;rw[hu,hx,hy] at hRest;have HP:=qH (show(pre++[⟨s,x⟩])++rst v n y=one v n by rw[qD,<-hp,hRest];rfl);have HK:=qH hkp;have HJq:=qH (λq=>hJ pre wr (wr.drewN q) none hJs ⟨rfl,rfl,rfl,qR,λk hk _=>rfl⟩ (λr e=>by cases e));clear hkp hp hJs hr hsof hmo hmo' hk hu hx hRest hBt hBv h0 HSof HMo ht
    gi_wp2_with (refine⟨trivial,?_⟩;first|(gi_at_call 328;(with_reducible refine(callsIn_wide.2 HS.o).mono ?_);rintro e w' ⟨rfl,rfl⟩)|(gi_at_call 329;(with_reducible refine(callsIn_wide.2 HM.o).mono ?_);rintro e w' ⟨rfl,q,rfl⟩;obtain⟨fn,tmps,assign,body,hy,hR⟩:=hY pre ⟨s,x⟩ _ (HJq.o q) hpl;unfold zjE at hy;dsimp only at hy))
    refine hR.mono ?_
    rintro e W3 (⟨rfl,hJ3,hk3⟩|⟨rfl,hJx3⟩)
    · gi_wp2
      go_roundw
      case rel=>exact⟨y,pre++[⟨s,x⟩],by omega,by go_num,HP.o,hJ3,keptSx_t HK.o ((Kept.refl _ wr).drewN q|>.trans hk3 λj hj=> .inl hj)⟩
      case measure=>simp[intOf];omega
    · gi_wp2
      refine bodyPost_ret (results_none rfl _ _ _) rfl ?_
      exact⟨⟨_,rfl⟩,.inr ⟨_,trivial,hJx3⟩⟩
  · obtain rfl:left=0:=by omega
    have HP:=qH hp;clear hp;gi_wp2;go_end0;exact⟨⟨_,rfl⟩,.inl ⟨pre,by have:=HP.o;rw[zd7 v n h1n,List.append_nil] at this;exact this,hJs⟩⟩
theorem told_any(v n:Nat)(w:World):Calls prog 308 #[.int .u8 v,.int .i64 n] w λe w'=>
 e=.returned (.func (.func 327) #[] #[.pointer (some ⟨w.heap.size+1,0,none⟩),.pointer (some ⟨w.heap.size,0,none⟩)])/\w'=(w.alloc (.cells #[.int .u8 v] 5)).alloc (.cells #[.int .i64 n] 3):=by
 go_enter func308,ntmps308;go_wp2;go_ret;exact⟨by simp,rfl⟩
theorem z8w(m Bt Bv R M n₁ v n:Nat)(hm:1<=m)(hv:v<=15)(h1n:1<=n)(hn:n<=2000)(hBt1:Bt<n₁)(hBt2:Bt≠R)(hBt3:Bt≠M)(hBv1:Bv<n₁)(hBv2:Bv≠R)(hBv3:Bv≠M)
 (hG1: 4 <n₁) (hG2: 4 ≠R) (hG3: 4 ≠M) (w:World) (hn1:n₁<=w.heap.size)
 (hBt:w.cell? ⟨Bt,0,none⟩=some (.int .i64 n)) (hBv:w.cell? ⟨Bv,0,none⟩=some (.int .u8 v)) (hT:Tab w):
 SeqStopsK Fence.wide m prog 327 #[.pointer (some ⟨Bt,0,none⟩),.pointer (some ⟨Bv,0,none⟩)] zjE (Kept (Sx R M n₁)) (λys=>ys=one v n) (λ_=>True) n w:=λl J Jx W hW hJ _ hY h0=>
 zcO m l Bt Bv R M n₁ v n hm hv h1n hn hBt1 hBt2 hBt3 hBv1 hBv2 hBv3 hG1 hG2 hG3 W (qK hn1 hW.size) J Jx hJ hY ((hW.cell (p:=⟨Bt,0,none⟩) (by show Bt<_;omega)).trans hBt) ((hW.cell (p:=⟨Bv,0,none⟩) (by show Bv<_;omega)).trans hBv) (hT.below hW qR) h0
